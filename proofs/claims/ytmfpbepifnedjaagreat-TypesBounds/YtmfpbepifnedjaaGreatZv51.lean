/- types. -/
import Derived.Test.YtmfpbepifnedjaaGreatZv01
import Derived.Test.YtmfpbepifnedjaaGreatZv50
set_option maxRecDepth 100000
set_option maxHeartbeats 32000000
namespace Go.Proofs.YtmfpbepifnedjaaGreat
section
open Go.RowKit Go.Maps
theorem row_ls{w:World}{b:Nat}{sl:Value}{vs:List Fld}(h:w.ownsRow b 67 2 sl vs.length (fdCells vs)):LsAt PF 2 (fun g=>b<=g) w sl vs:=by
  have l:(vs.map fun v=>[str v.name,str v.type]).flatten=fdCells vs:=by
    unfold fdCells;rw[List.flatMap_def]
  have k:All PF 2 (fun g=>b<=g) w (vs.map fun v=>[str v.name,str v.type]) vs:=⟨by simp,fun j x m d i=>by
    rw[List.getElem?_map,d]at i;cases i
    exact⟨rfl,rfl⟩⟩
  rcases h.2 with ⟨e,n⟩|⟨g,cap,t,o,p,f,q,r,u,s⟩
  · have:vs=[]:=List.eq_nil_of_length_eq_zero n
    subst this;exact⟨none,0,[],e,Nat.le_refl _,Nat.zero_le _,⟨rfl,fun j x m d=>by simp at d⟩,fun h=>absurd rfl h⟩
  · refine⟨some (Ja g 0),cap,_,o,q,r,k,fun _=>⟨g,rfl,p,Qaa f,fun j c a=>?_⟩⟩
    rw[l,<- s,List.getElem?_take]at a;split at a
    · rw[Qad f]
      simpa using a
    ·cases a
theorem cs16{w:World}{b o:Nat}{c0 c1 c2 c3 c4 c5 c6 c7 c8 c9 c10 c11 c12 c13 c14 c15:Value}(h:∀q c,([c0,c1,c2,c3,c4,c5,c6,c7,c8,c9,c10,c11,c12,c13,c14,c15]:List Value)[q]?=some c->w.cell? (Ja b (o+q))=some c):w.cell? (Ja b o)=some c0/\w.cell? (Ja b (o+1))=some c1/\w.cell? (Ja b (o+2))=some c2/\w.cell? (Ja b (o+3))=some c3/\w.cell? (Ja b (o+4))=some c4/\w.cell? (Ja b (o+5))=some c5/\w.cell? (Ja b (o+6))=some c6/\w.cell? (Ja b (o+7))=some c7/\w.cell? (Ja b (o+8))=some c8/\w.cell? (Ja b (o+9))=some c9/\w.cell? (Ja b (o+10))=some c10/\w.cell? (Ja b (o+11))=some c11/\w.cell? (Ja b (o+12))=some c12/\w.cell? (Ja b (o+13))=some c13/\w.cell? (Ja b (o+14))=some c14/\w.cell? (Ja b (o+15))=some c15:=⟨h 0 _ rfl,h 1 _ rfl,h 2 _ rfl,h 3 _ rfl,h 4 _ rfl,h 5 _ rfl,h 6 _ rfl,h 7 _ rfl,h 8 _ rfl,h 9 _ rfl,h 10 _ rfl,h 11 _ rfl,h 12 _ rfl,h 13 _ rfl,h 14 _ rfl,h 15 _ rfl⟩
theorem Qhz(s:ByteArray)(hs:s.size<=281474976710656)(w:World):Calls Tryz.prog 6 #[.string s] w fun e w'=>e = .returned (.bool true)/\Below w.heap.size w w':=by
  have ct:=Qnq s hs w;go_enter Tryz.func6,Tryz.ntmps6;go_wp2_with fail;refine ct.mono ?_;clear ct;rintro u v1⟨_,q,ok,rfl,⟨Q,S,R,T,V,U,X,Z,Y,a0,a2,a1,ad,C,O,rfl,D⟩,b1,cu,cw,cv,bO⟩;obtain⟨a,b4⟩:=JE (v1.alloc (.cells #[.slice Q S R,.slice T V U,.slice X Z Y,.slice a0 a2 a1,.slice ad C O] 28));have c1:=bnw b4;have p1:=nnw b4;obtain⟨z,b5⟩:=JF v1.heap.size;have B1:Below w.heap.size w a:=b1.trans (c1.mono b1.size);rw[b5]at c1 p1;have a7:∀W,Below a.heap.size a W->z<=W.heap.size/\PgS (fun b=>b<z) W [.slice Q S R,.slice T V U,.slice X Z Y,.slice a0 a2 a1,.slice ad C O] q:=fun W g=>by
    have bb:=c1.trans (g.mono (by have:=c1.size;omega));exact⟨by have:=bb.size;omega,Qak.same _ _ _ _ _ (Qak.mono _ (fun b=>b<z) _ _ _ D (fun b hl _=>by rw[<- b5];exact hl)) (by have:=bb.size;omega) (fun b hb _=>bb.block b hb)⟩
  have b8:q.types.length<=1000000000:=by have:=cv.1;omega
  have co:q.clauses.length=C:=(Qka D).2.2.2.2;obtain⟨f1,f2,bH⟩:∃f1 f2,chkP q=(f1,f2):=⟨_,_,rfl⟩;have cr:f1=0->(ckF q 0).1=0:=fun e=>by
    have e2:chkP q=ckF q 0:=by unfold chkP;rw[if_pos ⟨cu,cw⟩]
    rw[<- e2,bH];exact e
  have HC:=hide (show ∀W,Below a.heap.size a W->W.heap[z]?=some (.cells #[.slice Q S R,.slice T V U,.slice X Z Y,.slice a0 a2 a1,.slice ad C O] 28 (0,0)) from fun W g=>(g.block _ (Qaa p1)).trans p1)
  have c3:=hide (show ∀W,Below a.heap.size a W->Calls Tryz.prog 10 #[.agg #[.slice Q S R,.slice T V U,.slice X Z Y,.slice a0 a2 a1,.slice ad C O]] W fun u w'=>u = .returned (.agg #[Ji f1,Ji f2])/\Below W.heap.size W w' from fun W g=>by
    have:=Qpb (n0:=z) (a7 W g).1 (a7 W g).2 b8 (fun x hx=>Nat.le_trans (bO x hx) (by omega));rw[bH]at this
    exact this)
  have cJ:=hide (show ∀W,Below a.heap.size a W -> ∀s t,Calls Tryz.prog 18 #[.agg #[.slice Q S R,.slice T V U,.slice X Z Y,.slice a0 a2 a1,.slice ad C O],str s,str t] W fun u w'=>u = .returned (.bool (belowP q s t))/\Below W.heap.size W w' from fun W g s t=>Qhr (n0:=z) (a7 W g).1 (a7 W g).2 b8 s t);have cN:=hide (show ∀W,Below a.heap.size a W -> ∀(c:Cls) (aa ba:Option Addr) (an ac bn bc:Nat),c∈q.clauses->LsAt PE 5 (fun b=>b<z) W (.slice aa an ac) c.head.args->LsAt PLt 16 (fun b=>b<z) W (.slice ba bn bc) c.body->Calls Tryz.prog 14 #[.agg #[.slice Q S R,.slice T V U,.slice X Z Y,.slice a0 a2 a1,.slice ad C O],.agg #[str c.head.rel,.slice aa an ac,Ji c.head.at_,.slice ba bn bc,Ji c.at_]] W fun u w'=>InfA (infP q c) W u w' from fun W g c aa ba an ac bn bc hc hA hB=>Qq (n0:=z) (a7 W g).1 (a7 W g).2 b8 c hA hB (Nat.le_trans (bO c hc) (by omega)));have cK:=hide (show ∀W,Below a.heap.size a W -> ∀t,Calls Tryz.prog 19 #[.agg #[.slice Q S R,.slice T V U,.slice X Z Y,.slice a0 a2 a1,.slice ad C O],str t] W fun u w'=>DeA (fun b=>b<z) q t W u w' from fun W g t=>Qrj (a7 W g).2 t)
  have c4:=hide (show ∀W,Below a.heap.size a W->LsAt PCl 5 (fun b=>b<z) W (.slice ad C O) q.clauses from fun W g=>by
    obtain⟨_,_,_,_,_,ee,_,_,_,_,h4⟩:=PgS.cells (a7 W g).2;obtain⟨-,-,-,-,rfl⟩:=list5 ee
    exact h4)
  have HA:=hide (show ∀W,Calls Tryz.prog 12 #[] W fun u w'=>u = .returned (.bool true)/\Below W.heap.size W w' from fun W=>Qkv W);have HE:=hide (show ∀W,Below a.heap.size a W->Below w.heap.size w W from fun W g=>B1.trans (g.mono B1.size));have aU:=hide cr;have cR:=hide co;have bB:=hide (Ya b4 b5);have ds:=((Qa c4) a (Below.refl _ _)).cap rfl;have af:Hid (Below a.heap.size a a):=hide (Below.refl _ _);have dm:=hide (show z<=a.heap.size by have:=c1.size;omega);clear cu cw cv bO b4 c1 p1 b5 B1 a7 b8 co bH cr D b1;go_upto_region 2 with fail;rw[<- (Qa bB).1,(Qa bB).2];clear bB;cases ok
  ·
   have n:=Qa HA a;obtain⟨E,F,G,H,I,L⟩:=cl5 (Qa HC a (Qa af));go_wp2_with fail;refine n.mono ?_;clear n E F G H I L;rintro u vA⟨rfl,N⟩;have ay:=hide ((Qa af).trans (N.mono (Qa af).size));clear N;go_wp2_with fail;go_ret;exact⟨rfl,Qa HE vA (Qa ay)⟩
  have n:=Qa c3 a (Qa af);obtain⟨E,F,G,H,I,L⟩:=cl5 (Qa HC a (Qa af));go_wp2_with fail;refine n.mono ?_;clear n E F G H I L;rintro u v2⟨rfl,N⟩;have a6:=hide ((Qa af).trans (N.mono (Qa af).size));clear N;by_cases g1:f1=0
  · by_cases g2:f2=0
    · have bj:=hide (Qa aU g1)
      subst g1;subst g2;clear aU c3;have n:=Qa HA v2;obtain⟨E,F,G,H,I,L⟩:=cl5 (Qa HC v2 (Qa a6));go_wp2_with fail;refine n.mono ?_;clear n E F G H I L;rintro u v3⟨rfl,N⟩;have bA:=hide ((Qa a6).trans (N.mono (Qa a6).size));clear N;clear HA;obtain⟨E,F,G,H,I,L⟩:=cl5 (Qa HC v3 (Qa bA));go_wp2_with fail;clear E F G H I L;go_loopw [38] (fun J wr=>∃(i:Nat),J = Ji (i:Int)/\i<=C/\Hid (Below a.heap.size a wr/\(wClauseP q (q.clauses.drop i)).1=0)) (fun J _=>C - (intOf J).toNat)
      case atStart=>exact⟨0,rfl,Nat.zero_le _,hide ⟨Qa bA,(Qpf (Qa bj)).2.2.2⟩⟩
      clear bA;obtain⟨i,rfl,hi,HI⟩:=hrel;by_cases d6:i<C
      · obtain⟨c,hc⟩:∃c,q.clauses[i]?=some c:=⟨q.clauses[i]'(by rw[Qa cR];exact d6),List.getElem?_eq_getElem _⟩
        obtain⟨gc,dg,cs,e1,_,_,_,⟨aa,an,ac,ba,bn,bc,rfl,hA,hB⟩,bo⟩:=((Qa c4) wr (Qa HI).1).elem hc;simp only[Value.slice.injEq]at e1;obtain⟨rfl,-,rfl⟩:=e1;obtain⟨a3,a8,aQ,aR,aS⟩:=cs5 bo;obtain⟨w5,bd⟩:=JE (wr.alloc (.cells #[str c.head.rel,.slice aa an ac,Ji c.head.at_,.slice ba bn bc,Ji c.at_] 45));obtain⟨xb,bQ⟩:=JF wr.heap.size;have aA:=bnw bd;have bg:=nnw bd;rw[bQ]at bg;have c5:=hide (Ya bd bQ);have dp:=hB.cap rfl;have cq:c.body.length=bn:=by obtain⟨_,_,e⟩:=hB.sl;simp only[Value.slice.injEq]at e;exact e.2.1.symm
        have B5:=(Qa HI).1.trans (aA.mono (Qa HI).1.size);have n:=Qa cN w5 B5 c aa ba an ac bn bc (List.mem_of_getElem? hc) (hA.later Qaf aA) (hB.later Qaz aA);obtain⟨E,F,G,H,I,L⟩:=cl5 (Qa HC w5 B5);obtain⟨ag,ah,ai,aj,ak,yf⟩:=cl5 bg;have ck:q.clauses.drop i=c :: q.clauses.drop (i+1):=by
          rw[List.drop_eq_getElem_cons (List.getElem?_eq_some_iff.1 hc).1,(List.getElem?_eq_some_iff.1 hc).2]
        have bC:=hide (show(wClauseP q (c :: q.clauses.drop (i+1))).1=0 by rw[<- ck];exact(Qa HI).2);have bs:=hide B5;have bu:=hide bg;have c2:=hide (hB.later Qaz aA);have cT:=hide cq;clear hc hA hB bo bd bQ aA bg cq B5 ck HI;go_upto_region 7 with fail;rw[<- (Qa c5).1,(Qa c5).2];clear a3 a8 aQ aR aS;go_wp2_with fail;refine n.mono ?_;clear n E F G H I L ag ah ai aj ak;rintro u w6 hI
        cases D:infP q c with
        |error f=>
          rw[D]at hI;have h0:=Qa bC;rw[wClauseP,D]at h0;exact absurd h0 hI.2.2
        |ok vs=>
          rw[D]at hI;obtain⟨b6,sl,rfl,hr⟩:=hI;have bN:=row_ls hr;obtain⟨la,lc,rfl⟩:=bN.sl;obtain⟨nv,b7⟩:=JF vs.length;obtain⟨w7,be⟩:=JE (w6.alloc (.cells #[Ji 0,Ji 0] 31));obtain⟨fb,bL⟩:=JF w6.heap.size;have bE:=bnw be;have bS:=nnw be;rw[bL]at bS;have c6:=hide (Ya be bL);have B7:=b6.trans (bE.mono b6.size);obtain⟨ag,ah,ai,aj,ak,yf⟩:=cl5 ((B7.block _ (Qaa (Qa bu))).trans (Qa bu));obtain⟨d0,d1,ff⟩:=cl2 bS;have ae:=hide ((Qa bs).trans (B7.mono (Qa bs).size));have cH:=hide ((Qa c2).later Qaz B7);have cQ:=hide (show(wClauseP q (q.clauses.drop (i+1))).1=0 by have h0:=Qa bC;rw[wClauseP,D]at h0;exact h0);have cV:=hide D;have cU:=hide b7;have ao:=bN.later Qb bE;rw[b7]at ao;have cP:=hide ao;have bI:=ao.cap rfl;rw[b7];clear hr bN b7 be bL bE bS B7 D b6 bs c2 bC bu ao;unfold ftV;go_upto_region 8 with fail;rw[<- (Qa c6).1,(Qa c6).2];go_wp2_with fail;clear ag ah ai aj ak d0 d1;go_loopw [54] (fun J wr=>∃(j:Nat),J = Ji (j:Int)/\j<=bn/\Hid (Below w7.heap.size w7 wr)) (fun J _=>bn - (intOf J).toNat)
          case atStart=>exact⟨0,rfl,Nat.zero_le _,hide (Below.refl _ _)⟩
          obtain⟨j,rfl,hj,M⟩:=hrel;by_cases d3:j<bn
          · obtain⟨y,hy⟩:∃y,c.body[j]?=some y:=⟨c.body[j]'(by rw[Qa cT];exact d3),List.getElem?_eq_getElem _⟩
            obtain⟨gy,dk,cs,e1,_,_,_,⟨cW,A,cX,xa,xn,xc,ya,yn,yc,rfl,b0,_,_⟩,bq⟩:=((Qa cH).later Qaz (Qa M)).elem hy;simp only[Value.slice.injEq]at e1;obtain⟨rfl,-,rfl⟩:=e1;obtain⟨a3,a8,aQ,aR,aS,d8,d9,dc,dd,de,cA,cB,cC,cD,cE,cF⟩:=cs16 bq;obtain⟨w8,bf⟩:=JE (wr.alloc (.cells #[Ji y.kind,str y.atom.rel,.slice cW A cX,Ji y.atom.at_,str y.op,Ji y.l.kind,Ji y.l.num,str y.l.txt,.slice xa xn xc,Ji y.l.at_,Ji y.r.kind,Ji y.r.num,str y.r.txt,.slice ya yn yc,Ji y.r.at_,Ji y.at_] 61));obtain⟨yb,bR⟩:=JF wr.heap.size;have bF:=bnw bf;have bh:=nnw bf;rw[bR]at bh;have c7:=hide (Ya bf bR);have dn:=b0.cap rfl;have cp:y.atom.args.length=A:=by obtain⟨_,_,e⟩:=b0.sl;simp only[Value.slice.injEq]at e;exact e.2.1.symm
            have B8:=(Qa M).trans (bF.mono (Qa M).size);have n:=Qa cK w8 ((Qa ae).trans (B8.mono (Qa ae).size)) y.atom.rel;obtain⟨E,F,G,H,I,L⟩:=cl5 (Qa HC w8 ((Qa ae).trans (B8.mono (Qa ae).size)));obtain⟨ag,ah,ai,aj,ak,bT,bU,bX,bY,bZ,aK,aL,aM,aN,aO,aP,yf⟩:=cl16 bh;have bt:=hide B8;have bx:=hide bh;have HY:=hide hy;have c0:=hide (b0.later Qaf bF);have cS:=hide cp;clear bq hy b0 cp bf bR bF bh B8;go_upto_region 13 with fail;rw[<- (Qa c7).1,(Qa c7).2];clear a3 a8 aQ aR aS d8 d9 dc dd de cA cB cC cD cE cF M;go_wp2_with fail;refine n.mono ?_;clear n E F G H I L ag ah ai aj ak bT bU bX bY bZ aK aL aM aN aO aP;rintro u w9⟨b9,ca,cn,cc,di,dq,da,dr,dt,rfl,aF⟩;obtain⟨aJ,ap⟩:=JE (w9.alloc (.cells #[str dr,.slice ca cn cc,.bool di,.bool dq,Ji da] 63));obtain⟨db,bJ⟩:=JF w9.heap.size;have az:=bnw ap;have au:=nnw ap;rw[bJ]at au;have bk:=hide (Ya ap bJ);have aT:=b9.trans (az.mono b9.size);obtain⟨ag,ah,ai,aj,ak,bT,bU,bX,bY,bZ,aK,aL,aM,aN,aO,aP,yf⟩:=cl16 ((aT.block _ (Qaa (Qa bx))).trans (Qa bx));obtain⟨c8,c9,cb,cd,ce,df⟩:=cl5 au;have ax:=hide ((Qa bt).trans (aT.mono (Qa bt).size));have bv:=hide au;have cG:=hide ((Qa c0).later Qaf aT)
            have cL:=hide (show(match declP2 q y.atom.rel with|none=>cn=0/\ca=none|some d=>LsAt PF 2 (fun b=>b<z) aJ (.slice ca cn cc) d.cols) by
              cases D:declP2 q y.atom.rel with
              |none=>rw[D]at aF;exact aF
              |some d=>rw[D]at aF;exact LsAt.later Qb aF az)
            clear b9 aF ap bJ az au aT c0 bt bx;go_upto_region 14 with fail;rw[<- (Qa bk).1,(Qa bk).2];by_cases hk:y.kind=1
            · have g1:(y.kind != 1)=false:=by simp[hk]
              have cO:=hide hk;clear hk;by_cases ci:A=cn
              · subst ci
                have g2:((A:Int) != (A:Int))=false:=by simp
                go_wp2_with fail;clear ag ah ai aj ak bT bU bX bY bZ aK aL aM aN aO aP c8 c9 cb cd ce g1 g2;go_loopw [83] (fun J wr=>∃(k:Nat),J = Ji (k:Int)/\k<=A/\Hid (Below aJ.heap.size aJ wr)) (fun J _=>A - (intOf J).toNat)
                case atStart=>exact⟨0,rfl,Nat.zero_le _,hide (Below.refl _ _)⟩
                obtain⟨k,rfl,du,M⟩:=hrel;by_cases d4:k<A
                · obtain⟨e,he⟩:∃e,y.atom.args[k]?=some e:=⟨y.atom.args[k]'(by rw[Qa cS];exact d4),List.getElem?_eq_getElem _⟩
                  obtain⟨ge,dh,cs,e1,_,_,_,cf,aD⟩:=((Qa cG).later Qaf (Qa M)).elem he;simp only[Value.slice.injEq]at e1;obtain⟨rfl,-,rfl⟩:=e1;obtain⟨xv,cY,⟨ea,ec,cZ⟩,_⟩:=cf.cells;subst cZ;subst cY;obtain⟨aB,cl⟩:=JF e.kids.length;rw[cl]at aD;obtain⟨a3,a8,aQ,aR,aS⟩:=cs5 aD;obtain⟨cz,aq⟩:=JE (wr.alloc (.cells #[Ji e.kind,Ji e.num,str e.txt,.slice ea aB ec,Ji e.at_] 59));obtain⟨eb,bK⟩:=JF wr.heap.size;have bm:=bnw aq;have aI:=nnw aq;rw[bK]at aI;have bl:=hide (Ya aq bK);have bw:=hide aI;have cM:=hide he;have br:=hide ((Qa M).trans (bm.mono (Qa M).size));clear cf aD cl he aq bK bm aI;go_upto_region 18 with fail;rw[<- (Qa bl).1,(Qa bl).2];clear a3 a8 aQ aR aS M;go_wp2_with fail;go_loopw [90] (fun J wr=>∃(m:Nat),J = Ji (m:Int)/\m<=nv/\Hid (Below cz.heap.size cz wr)) (fun J _=>nv - (intOf J).toNat)
                  case atStart=>exact⟨0,rfl,Nat.zero_le _,hide (Below.refl _ _)⟩
                  obtain⟨m,rfl,hm,M⟩:=hrel;by_cases d5:m<nv
                  · obtain⟨v,hv⟩:∃v,vs[m]?=some v:=⟨vs[m]'(by rw[Qa cU];exact d5),List.getElem?_eq_getElem _⟩
                    have b3:=Qa br;have b2:=Qa ax;have b1:=Qa ae;have bV:=Qa M;obtain⟨gv,dj,cs,e1,_,d2,_,bI,aE⟩:=((Qa cP).later Qb (((b2.trans (b3.mono b2.size))).trans (bV.mono (b2.trans (b3.mono b2.size)).size))).elem hv;simp only[Value.slice.injEq]at e1;obtain⟨rfl,-,rfl⟩:=e1;have cj:cs=[str v.name,str v.type]:=bI;subst cj;have a3:=aE 0 _ rfl;rw[Nat.add_zero]at a3;have a8:=aE 1 _ rfl;obtain⟨o,ar⟩:=JE (wr.alloc (.cells #[str v.name,str v.type] 67));obtain⟨vb,bP⟩:=JF wr.heap.size;have am:=bnw ar;have av:=nnw ar;rw[bP]at av;have a5:=hide (Ya ar bP);have bG:=b3.trans (bV.mono b3.size);have bb:=bG.trans (am.mono bG.size);have aH:=(bV.trans (am.mono bV.size)).block _ (Qaa (Qa bw));have aG:=bb.block _ (Qaa (Qa bv));have a4:=hide (bV.trans (am.mono bV.size));have al:=hide (b1.trans ((b2.trans (bb.mono b2.size)).mono b1.size));obtain⟨d,hd,bM⟩:∃d,declP2 q y.atom.rel=some d/\LsAt PF 2 (fun b=>b<z) aJ (.slice ca A cc) d.cols:=by
                      have:=Qa cL
                      cases D:declP2 q y.atom.rel with
                      |none=>rw[D]at this;have:=this.1;omega
                      |some d=>rw[D]at this;exact⟨d,rfl,this⟩
                    have n:d.cols.length=A:=by obtain⟨_,_,e⟩:=bM.sl;simp only[Value.slice.injEq]at e;exact e.2.1.symm
                    obtain⟨f,hf⟩:∃f,d.cols[k]?=some f:=⟨d.cols[k]'(by omega),List.getElem?_eq_getElem _⟩;obtain⟨P,dl,cs,e2,_,_,_,cg,bp⟩:=(bM.later Qb bb).elem hf;simp only[Value.slice.injEq]at e2;obtain⟨rfl,-,rfl⟩:=e2;have ch:cs=[str f.name,str f.type]:=cg;subst ch;have bi:=bp 1 _ rfl;have cm:P<o.heap.size:=by
                      rcases Nat.lt_or_ge P o.heap.size with h|h
                      ·exact h
                      · have:o.heap[P]?=none:=Array.getElem?_eq_none h
                        simp only[World.cell?,this]at bi;cases bi
                    have aw:=hide (show ∀W:World,Below o.heap.size o W->W.heap[eb]?=some (.cells #[Ji e.kind,Ji e.num,str e.txt,.slice ea aB ec,Ji e.at_] 59 (0,0))/\W.heap[vb]?=some (.cells #[str v.name,str v.type] 67 (0,0))/\W.heap[z]?=some (.cells #[.slice Q S R,.slice T V U,.slice X Z Y,.slice a0 a2 a1,.slice (Js gc) C O] 28 (0,0))/\W.heap[db]?=some (.cells #[str dr,.slice (Js P) A cc,.bool di,.bool dq,Ji da] 63 (0,0))/\W.cell? (Ja P (k*2+1))=some (str f.type) from fun W g=>
                      ⟨(g.block _ (Qaa (aH.trans (Qa bw)))).trans (aH.trans (Qa bw)),(g.block _ (Qaa av)).trans av,Qa HC W ((Qa al).trans (g.mono (Qa al).size)),(g.block _ (Qaa (aG.trans (Qa bv)))).trans (aG.trans (Qa bv)),(g.cell (p:=(Ja P (k*2+1))) cm).trans bi⟩)
                    have aC:=Qa cJ o.drew ((Qa al).trans ((Below.refl _ o).drew.mono (Qa al).size)) v.type f.type;have cI:=hide (show e.kind=1->e.txt=v.name->belowP q v.type f.type=true from fun h1 h2=>Qnl (Qa bj) (Qa cV) (List.mem_of_getElem? (Qa HY)) (Qa cO) hd (Qa cM) hf (List.mem_of_getElem? hv) h1 h2);have dv:k<A:=by omega
                    clear b1 b2 b3 bV d2 bI aE ar bP am av bG bb aH aG hd bM n hf cg bp bi cm hv;by_cases h1:e.kind=1
                    · have g1:(e.kind==1)=true:=by simp[h1]
                      by_cases h2:e.txt=v.name
                      · have g2:(e.txt==v.name)=true:=by simp[h2]
                        rw[Qa cI h1 h2]at aC;clear h1 h2;go_upto_region 21 with fail;rw[<- (Qa a5).1,(Qa a5).2];clear a3 a8;refine Qat (tr:=.take 0 (.take 1 (.take 2 (.take 3 (.take 4 (.take 5 (.take 6 (.take 7 (.take 8 (.take 9 (.take 10 (.take 11 (.take 12 (.take 13 (.take 14 (.take 15 (.take 16 (.take 17 (.take 18 (.take 19 (.one 20 (.take 21 (.take 22 .nil))))))))))))))))))))))) (fun B=>B.heap[eb]?=some (.cells #[Ji e.kind,Ji e.num,str e.txt,.slice ea aB ec,Ji e.at_] 59 (0,0))/\B.heap[vb]?=some (.cells #[str v.name,str v.type] 67 (0,0))/\B.heap[z]?=some (.cells #[.slice Q S R,.slice T V U,.slice X Z Y,.slice a0 a2 a1,.slice (Js gc) C O] 28 (0,0))/\B.heap[db]?=some (.cells #[str dr,.slice (Js P) A cc,.bool di,.bool dq,Ji da] 63 (0,0))/\B.cell? (Ja P (k*2+1))=some (str f.type)) mixedO (by kernel_rfl) rfl (by kernel_rfl) (fun PP ab=>?_)
                        iterate 2 (refine tT (v:=?_) (fun w' hw=>?_) ?_;rotate_left;· (obtain⟨aV,aW,aX,aY,aZ,ef⟩:=cl5 hw.1;clear hw;go_simp<;>rfl))
                        iterate 2
                         refine tT (v:=.bool true) (fun w' hw=>?_) ?_
                         ·(clear hw;go_simp<;>rfl)
                        iterate 4 (refine tT (v:=?_) (fun w' hw=>?_) ?_;rotate_left;· (obtain⟨aV,aW,aX,aY,aZ,ef⟩:=cl5 hw.1;obtain⟨cx,cy,vf⟩:=cl2 hw.2.1;clear hw;go_simp<;>rfl))
                        refine tT (v:=.bool true) (fun w' hw=>?_) ?_
                        ·(clear hw;go_simp<;>rfl)
                        iterate 2
                         refine tT (v:=.bool true) (fun w' hw=>?_) ?_
                         ·(clear hw;go_simp<;>rfl)
                        iterate 9 (refine tT (v:=?_) (fun w' hw=>?_) ?_;rotate_left;· (obtain⟨cx,cy,vf⟩:=cl2 hw.2.1;obtain⟨dx,dy,dz,dA,dB,pf⟩:=cl5 hw.2.2.1;obtain⟨c8,c9,cb,cd,ce,df⟩:=cl5 hw.2.2.2.1;have dw:=hw.2.2.2.2;clear hw;go_simp<;>rfl))
                        refine Qag rfl (Qa aw o.drew (Below.refl _ o).drew) (fun K a9=>?_);go_simp;refine aC.mono ?_;clear aC;rintro u d7⟨rfl,bD⟩;show K _ _;refine a9 _ _ ?_;clear a9 K;refine tT (v:=.bool false) (fun w' hw=>?_) ?_
                        ·(clear hw;go_simp<;>rfl)
                        refine tT (v:=.bool false) (fun w' hw=>?_) ?_
                        ·(clear hw;go_simp<;>rfl)
                        refine Qao (Qa aw d7 ((Below.refl _ o).drew.trans bD)) (ab _ _ ?_);clear ab PP;have HM:=hide ((Qa a4).trans (((Below.refl _ o).drew.trans bD).mono (Qa a4).size));clear bD;go_wp2_with fail;go_roundw
                        case rel=>exact⟨m+1,by simp,by omega,HM⟩
                        case measure=>simp[intOf];omega
                      · have g2:(e.txt==v.name)=false:=beq_eq_false_iff_ne.2 h2
                        clear h1 h2 aC;go_upto_region 21 with fail;rw[<- (Qa a5).1,(Qa a5).2];clear a3 a8;refine Qat (tr:=.take 0 (.take 1 (.take 2 (.take 3 (.take 4 (.take 5 (.take 6 (.take 7 (.take 8 (.take 9 (.take 10 (.take 11 (.take 12 (.take 13 (.take 14 (.take 15 (.take 16 (.take 17 (.take 18 (.take 19 (.one 20 (.take 21 (.take 22 .nil))))))))))))))))))))))) (fun B=>B.heap[eb]?=some (.cells #[Ji e.kind,Ji e.num,str e.txt,.slice ea aB ec,Ji e.at_] 59 (0,0))/\B.heap[vb]?=some (.cells #[str v.name,str v.type] 67 (0,0))/\B.heap[z]?=some (.cells #[.slice Q S R,.slice T V U,.slice X Z Y,.slice a0 a2 a1,.slice (Js gc) C O] 28 (0,0))/\B.heap[db]?=some (.cells #[str dr,.slice (Js P) A cc,.bool di,.bool dq,Ji da] 63 (0,0))/\B.cell? (Ja P (k*2+1))=some (str f.type)) mixedO (by kernel_rfl) rfl (by kernel_rfl) (fun PP ab=>?_)
                        iterate 2 (refine tT (v:=?_) (fun w' hw=>?_) ?_;rotate_left;· (obtain⟨aV,aW,aX,aY,aZ,ef⟩:=cl5 hw.1;clear hw;go_simp<;>rfl))
                        iterate 2
                         refine tT (v:=.bool true) (fun w' hw=>?_) ?_
                         ·(clear hw;go_simp<;>rfl)
                        iterate 4 (refine tT (v:=?_) (fun w' hw=>?_) ?_;rotate_left;· (obtain⟨aV,aW,aX,aY,aZ,ef⟩:=cl5 hw.1;obtain⟨cx,cy,vf⟩:=cl2 hw.2.1;clear hw;go_simp<;>rfl))
                        refine tT (v:=.bool false) (fun w' hw=>?_) ?_
                        ·(clear hw;go_simp<;>rfl)
                        iterate 2
                         refine tT (v:=.bool false) (fun w' hw=>?_) ?_
                         ·(clear hw;go_simp<;>rfl)
                        iterate 9 (refine Qcq rfl (by kernel_rfl) ?_)
                        refine Qag rfl (Qa aw o.drew (Below.refl _ o).drew) (fun K a9=>?_);go_simp;refine a9 _ _ ?_;clear a9 K;refine Qcq rfl (by kernel_rfl) ?_;refine tT (v:=.bool false) (fun w' hw=>?_) ?_
                        ·(clear hw;go_simp<;>rfl)
                        refine Qao (Qa aw o.drew (Below.refl _ o).drew) (ab _ _ ?_);clear ab PP;have HM:=hide ((Qa a4).trans ((Below.refl _ o).drew.mono (Qa a4).size));go_wp2_with fail;go_roundw
                        case rel=>exact⟨m+1,by simp,by omega,HM⟩
                        case measure=>simp[intOf];omega
                    · have g1:(e.kind==1)=false:=beq_eq_false_iff_ne.2 h1
                      clear h1 aC;go_upto_region 21 with fail;rw[<- (Qa a5).1,(Qa a5).2];clear a3 a8;refine Qat (tr:=.take 0 (.take 1 (.take 2 (.take 3 (.take 4 (.take 5 (.take 6 (.take 7 (.take 8 (.take 9 (.take 10 (.take 11 (.take 12 (.take 13 (.take 14 (.take 15 (.take 16 (.take 17 (.take 18 (.take 19 (.one 20 (.take 21 (.take 22 .nil))))))))))))))))))))))) (fun B=>B.heap[eb]?=some (.cells #[Ji e.kind,Ji e.num,str e.txt,.slice ea aB ec,Ji e.at_] 59 (0,0))/\B.heap[vb]?=some (.cells #[str v.name,str v.type] 67 (0,0))/\B.heap[z]?=some (.cells #[.slice Q S R,.slice T V U,.slice X Z Y,.slice a0 a2 a1,.slice (Js gc) C O] 28 (0,0))/\B.heap[db]?=some (.cells #[str dr,.slice (Js P) A cc,.bool di,.bool dq,Ji da] 63 (0,0))/\B.cell? (Ja P (k*2+1))=some (str f.type)) mixedO (by kernel_rfl) rfl (by kernel_rfl) (fun PP ab=>?_)
                      iterate 2 (refine tT (v:=?_) (fun w' hw=>?_) ?_;rotate_left;· (obtain⟨aV,aW,aX,aY,aZ,ef⟩:=cl5 hw.1;clear hw;go_simp<;>rfl))
                      iterate 2
                       refine tT (v:=.bool false) (fun w' hw=>?_) ?_
                       ·(clear hw;go_simp<;>rfl)
                      iterate 5 (refine Qcq rfl (by kernel_rfl) ?_)
                      iterate 2
                       refine tT (v:=.bool false) (fun w' hw=>?_) ?_
                       ·(clear hw;go_simp<;>rfl)
                      iterate 9 (refine Qcq rfl (by kernel_rfl) ?_)
                      refine Qag rfl (Qa aw o.drew (Below.refl _ o).drew) (fun K a9=>?_);go_simp;refine a9 _ _ ?_;clear a9 K;refine Qcq rfl (by kernel_rfl) ?_;refine tT (v:=.bool false) (fun w' hw=>?_) ?_
                      ·(clear hw;go_simp<;>rfl)
                      refine Qao (Qa aw o.drew (Below.refl _ o).drew) (ab _ _ ?_);clear ab PP;have HM:=hide ((Qa a4).trans ((Below.refl _ o).drew.mono (Qa a4).size));go_wp2_with fail;go_roundw
                      case rel=>exact⟨m+1,by simp,by omega,HM⟩
                      case measure=>simp[intOf];omega
                  · have HM:=hide ((((Below.refl _ aJ).trans (Qa br)).trans ((Qa M).mono (Qa br).size)))
                    go_wp2_with fail;go_roundw
                    case rel=>exact⟨k+1,by simp,by omega,HM⟩
                    case measure=>simp[intOf];omega
                · have HM:=hide (((Qa ax).trans ((Qa M).mono (Qa ax).size)))
                  go_wp2_with fail;go_roundw
                  case rel=>exact⟨j+1,by simp,by omega,HM⟩
                  case measure=>simp[intOf];omega
              · have g2:((cn:Int) != (A:Int))=true:=by simpa using (by omega:¬((cn:Int)=(A:Int)))
                clear ci;go_wp2_with fail;go_roundw
                case rel=>exact⟨j+1,by simp,by omega,ax⟩
                case measure=>simp[intOf];omega
            · have g1:(y.kind != 1)=true:=by simpa using hk
              clear hk;go_wp2_with fail;go_roundw
              case rel=>exact⟨j+1,by simp,by omega,ax⟩
              case measure=>simp[intOf];omega
          · have HM:=hide (show Below a.heap.size a wr/\(wClauseP q (q.clauses.drop (i+1))).1=0 from ⟨(Qa ae).trans ((Qa M).mono (Qa ae).size),Qa cQ⟩)
            go_wp2_with fail;go_roundw
            case rel=>exact⟨i+1,by simp,by omega,HM⟩
            case measure=>simp[intOf];omega
      · go_wp2_with fail
        go_ret;exact⟨rfl,Qa HE wr (Qa HI).1⟩
    · have g3:(f2==0)=false:=beq_eq_false_iff_ne.2 g2
      subst g1;clear g2 aU;go_upto_region 3 with fail;have n:=Qa HA v2;obtain⟨E,F,G,H,I,L⟩:=cl5 (Qa HC v2 (Qa a6));go_wp2_with fail;refine n.mono ?_;clear n E F G H I L;rintro u vA⟨rfl,N⟩;have ay:=hide ((Qa a6).trans (N.mono (Qa a6).size));clear N;go_wp2_with fail;go_ret;exact⟨rfl,Qa HE vA (Qa ay)⟩
  · have g3:(f1==0)=false:=beq_eq_false_iff_ne.2 g1
    clear g1 aU;go_upto_region 3 with fail;have n:=Qa HA v2;obtain⟨E,F,G,H,I,L⟩:=cl5 (Qa HC v2 (Qa a6));go_wp2_with fail;refine n.mono ?_;clear n E F G H I L;rintro u vA⟨rfl,N⟩;have ay:=hide ((Qa a6).trans (N.mono (Qa a6).size));clear N;go_wp2_with fail;go_ret;exact⟨rfl,Qa HE vA (Qa ay)⟩
end
end Go.Proofs.YtmfpbepifnedjaaGreat
