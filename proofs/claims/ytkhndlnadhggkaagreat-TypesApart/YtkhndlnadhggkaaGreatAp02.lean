/- Walk of a text between quotes. -/
import Derived.Test.YtkhndlnadhggkaaGreatAp01
import Derived.Laws.AppendOwnNone
import Derived.Deep.AppendLies
import Derived.WalkSpells
import Derived.Deep.MidRow
import Derived.Deep.WholeRow
import Derived.WalkLawsBesides
import Derived.Test.YtkhndlnadhggkaaGreatProg
import Derived.Maps.AppendAt
set_option maxRecDepth 100000
set_option maxHeartbeats 32000000
namespace Go.Proofs.YtkhndlnadhggkaaGreat
section
open Go.ChangeShapes Go.WideShapes Go.RowKit
def TR.app(bs:Txt)(k:Nat):TR->TR
 |ok v n=>ok (bs++v) (n+k)
 |bad o=>bad (o+k)
 |never=>never
theorem TR.app_nil(x:TR):x.app [] 0=x:=by cases x<;>rfl
theorem TR.app_pre(bs:Txt)(k:Nat)(c:UInt8)(j:Nat)(x:TR):(x.pre c j).app bs k=x.app (bs++[c]) (k+j):=by
 cases x with
 |ok v n=>simp[TR.pre,TR.app];omega
 |bad o=>simp[TR.pre,TR.app];omega
 |never=>rfl
theorem Qti{c:UInt8}(h1:¬c=34)(h2:¬c=10)(h3:¬c=92):∀t:Txt,txScan (c :: t)=(txScan t).pre c 1
 | []=>by simp[txScan,h1,h2,h3,TR.pre]
 |d :: u=>by rw[txScan,if_neg h1,if_neg h2,if_neg h3]
theorem Qmn:∀t:Txt,txScan (34 :: t) = .ok [] 1
 | []=>by simp[txScan]
 |d :: u=>by rw[txScan,if_pos rfl]
theorem tx_line:∀t:Txt,txScan (10 :: t) = .bad 0
 | []=>by simp[txScan]
 |d :: u=>by rw[txScan,if_neg (by decide),if_pos rfl]
theorem Qml{d b:UInt8}(h:esc d=some b)(u:Txt):txScan (92 :: d :: u)=(txScan u).pre b 2:=by
 rw[txScan,if_neg (by decide),if_neg (by decide),if_pos rfl,h]
theorem Qmm:∀t:Txt,(∀d u,t=d :: u->esc d=none)->txScan (92 :: t) = .bad 0
 | [],_=>by simp[txScan]
 |d :: u,h=>by rw[txScan,if_neg (by decide),if_neg (by decide),if_pos rfl,h d u rfl]
def byteVals(l:List UInt8):List Value:=l.map fun b=>Value.int .u8 (b.toNat:Int)
theorem Qsd{wr:World}{B:Nat}{v:Value}{bs:List UInt8}(hown:wr.ownsRow B 5 1 v bs.length (byteVals bs))(hne:bs≠[]):
  (convert 149 9 v).run Tryz.prog wr = .ok (.string ⟨bs.toArray⟩) wr:=by
 rcases hown.2 with ⟨_,h⟩|⟨g,cap,d,rfl,n,b,l,i,m,c⟩
 ·exact absurd (List.eq_nil_of_length_eq_zero h) hne
 refine run_convert_bytes_back wr 149 9 5 (Ja g 0) cap bs Tryz.underlying149 Tryz.underlying5 Tryz.underlying9 fun j f=>?_;refine World.news_of_block b j _ ?_;have a:(d.toList.take (bs.length*1))[j]?=(byteVals bs)[j]?:=by rw[c]
 rw[List.getElem?_take,if_pos (by omega)]at a;rw[a];simp[byteVals,f]
theorem Qsc(w:World):(convert 149 9 (Jn)).run Tryz.prog w = .ok (Je) w:=by
 rw[run_convert_bytes_string w 149 9 5 none 0 0 Tryz.underlying149 Tryz.underlying5 Tryz.underlying9];simp[Conv.bytesToString];rfl
theorem info5:(Tryz.prog.info? 5).map (fun i=>(i.zero,i.size,i.bytes))=some (some (.int .u8 0),1,1):=by kernel_rfl
def TxRel(s:ByteArray)(k B:Nat)(W0:World)(v i:Value)(wr:World):Prop:=
 ∃ (m : Nat) (bs : Txt), i = .int .i64 (m : Int) ∧ Hid (k + 1 ≤ m ∧ m ≤ s.size ∧ bs.length ≤ m ∧ wr.ownsRow B 5 1 v bs.length (byteVals bs) ∧ Below B W0 wr ∧
  txScan (s.data.toList.drop (k+1))=(txScan (s.data.toList.drop m)).app bs (m - (k+1))/\(bs=[]->v = .slice none 0 0))
theorem Qgg{s:ByteArray}{k B m n:Nat}{W0 wr w2:World}{v v':Value}{bs:Txt}{c:UInt8}{x:Int}(hx:x=(c.toNat:Int))(hB:B<=W0.heap.size)
  (h:k+1<=m/\m<=s.size/\bs.length<=m/\wr.ownsRow B 5 1 v bs.length (byteVals bs)/\Below B W0 wr/\txScan (s.data.toList.drop (k+1))=(txScan (s.data.toList.drop m)).app bs (m - (k+1))/\(bs=[]->v = Jn))
  (hn:0<n)(hm:m+n<=s.size)(ht:txScan (s.data.toList.drop m)=(txScan (s.data.toList.drop (m+n))).pre c n)
  (hown:w2.ownsRow B 5 1 v' (bs.length+1) (byteVals bs++[.int .u8 x]))(hgrow:(wr.alloc (.cells #[.int .u8 x] 5)).grownBy w2 v.ownBlock):
  TxRel s k B W0 v' (Ji ((m+n:Nat):Int)) w2:=by
 obtain⟨i,l,o,b,a,d,q⟩:=h;refine⟨m+n,bs++[c],rfl,hide ⟨by omega,hm,by rw[List.length_append];simp;omega,?_,?_,?_,fun h=>absurd h (by simp)⟩⟩
 ·
  have e:byteVals (bs++[c])=byteVals bs++[.int .u8 x]:=by rw[hx];simp[byteVals]
  rw[e,List.length_append];exact hown
 ·
  have g:=a.size;exact(a.alloc (by omega) _).grown hgrow (by simp;omega) (fun j f=>(b.lt j f).1)
 rw[d,ht,TR.app_pre];congr 1;omega
theorem Qdc(wr:World)(x:Value):∀j u,([x]:List Value)[j]?=some u->(wr.alloc (.cells #[x] 5)).cell? (((Ja wr.heap.size 0):Addr).add j)=some u:=by
 intro j u a
 match j,a with
 | 0,a=>simp at a;subst a;simp[Addr.add]
theorem Qeg(x:Int):∀u∈([.int .u8 x]:List Value),u.oneCell'=true:=by
 intro u a;simp at a;subst a;rfl
theorem esc_at{s:ByteArray}{m:Nat}(h:m<s.size)(h92:bv s[m]=92):s.data.toList.drop m=92 :: s.data.toList.drop (m+1):=by
 have e:s[m]=92:=(Qfi (k:=92) (by omega)).1 h92;rw[Qar s m h,e]
theorem Qkn:∃i0:TypeInfo,Tryz.prog.info? 5=some i0/\i0.zero=some (.int .u8 0)/\i0.size=1/\i0.bytes=1:=by
 obtain⟨i0,b,a⟩:=Option.map_eq_some_iff.1 info5;simp only[Prod.mk.injEq]at a;exact⟨i0,b,a⟩
end
section
open Go.RowKit
abbrev str(l:Txt):Value:=.string ⟨l.toArray⟩
def sgs:List Txt:=twos++ones.map fun c=>[c]
theorem Qoj{α : Type}{l:List α}{p:α -> Bool}(d:α)(h:∀j,j<l.length->p (l.getD j d)=false):l.any p=false:=by
 rw[List.any_eq_false];intro x b;obtain⟨j,a,rfl⟩:=List.mem_iff_getElem.1 b;have:=h j a;rw[List.getD_eq_getElem?_getD,List.getElem?_eq_getElem a]at this
 simpa using this
theorem Qoh{α : Type}{l:List α}{p:α -> Bool}(d:α){j:Nat}(hj:j<l.length)(h:p (l.getD j d)=true):l.any p=true:=by
 rw[List.any_eq_true];refine⟨l[j],List.getElem_mem hj,?_⟩;rw[List.getD_eq_getElem?_getD,List.getElem?_eq_getElem hj]at h
 simpa using h
theorem hd_hit{l:Txt}{k:Nat}(hk:k<4)(hp:pre (hds.getD k []) l=true)(hn:noW (l.drop 5)=true):sgLen l=5:=by
 unfold sgLen isHd;rw[Qoh (p:=fun h=>pre h l) [] (show k<hds.length from hk) hp,hn];rfl
theorem hd_none{l:Txt}(h:∀j,j<4->(pre (hds.getD j []) l&&noW (l.drop 5))=false):isHd l=false:=by
 unfold isHd
 cases b:noW (l.drop 5) with
 |false=>rw[Bool.and_false]
 |true=>
  rw[Qoj (p:=fun h=>pre h l) []];· rfl
  intro j a;have:=h j a;rwa [b,Bool.and_true]at this
abbrev hdA:Value:=.agg #[str [46,100,101,99,108],str [46,116,121,112,101],str [46,99,111,109,112],str [46,105,110,105,116]]
theorem Qlv{k:Nat}(h:k<4):(hds.getD k []).length=5:=by
 rcases(by omega:k=0∨k=1∨k=2∨k=3) with rfl|rfl|rfl|rfl<;>rfl
abbrev sgA:Value:=.agg #[str [58,45],str [60,58],str [60,61],str [62,61],str [33,61],str [40],str [41],str [123],str [125],str [44],str [46],str [58],str [124],str [33],str [61],str [60],str [62],str [43],str [45],str [42],str [47],str [37],str [36]]
def tokVals(t:Tok):List Value:=[.int .i64 t.kind,str t.text,.int .i64 t.num,.int .i64 (t.at_:Int)]
def tokCells(l:List Tok):List Value:=l.flatMap tokVals
theorem Qem(l:List Tok)(t:Tok):tokCells (l++[t])=tokCells l++tokVals t:=by simp[tokCells]
def Out.toks:Out->List Tok
 | .ok l=>l
 | .bad _ _=>[]
def Out.why:Out->Int
 | .ok _=>0
 | .bad w _=>w
def Out.fa:Out->Int
 | .ok _=>0
 | .bad _ a=>(a:Int)
def lexP(l:Txt):Out:=if 65536<l.length then .bad 2 0 else scan 0 l
def TokAns(o:Out)(w w2:World)(e:Ending):Prop:=∃v,e = .returned (.tuple #[v,.agg #[.int .i64 o.why,.int .i64 o.fa]])/\w2.ownsRow w.heap.size 73 4 v o.toks.length (tokCells o.toks)/\Below w.heap.size w w2
def GSt(s:ByteArray)(k:Nat)(a why fa:Int):Prop:=
 (why=0/\fa=0 /\ ∃m:Nat,a=(m:Int)/\k<=m/\m<=s.size/\gapAt (s.data.toList.drop m) = .none/\scan k (s.data.toList.drop k)=scan m (s.data.toList.drop m)) ∨
 (why=7/\a=0 /\ ∃m:Nat,fa=(m:Int)/\scan k (s.data.toList.drop k) = .bad 7 m)
structure TkInv(s:ByteArray)(w:World)(fb:Nat)(v:Value)(wr:World)(toks:List Tok)(a why fa:Int):Prop where
 own:wr.ownsRow (w.heap.size+1) 73 4 v toks.length (tokCells toks)
 bel:Below w.heap.size w wr
 rb:wr.heap[w.heap.size]?=some fltZ
 fbx:wr.heap[fb]?=some (.cells #[.int .i64 why,.int .i64 fa] 31)
 fb1:w.heap.size+1<=fb
 st:(why=0/\fa=0 /\ ∃m:Nat,a=(m:Int)/\m<=s.size/\toks.length<=m/\gapAt (s.data.toList.drop m) = .none/\scan 0 s.data.toList=(scan m (s.data.toList.drop m)).app toks) ∨
  (why=7/\a=0 /\ ∃m:Nat,fa=(m:Int)/\scan 0 s.data.toList = .bad 7 m)
def TkRel(s:ByteArray)(w:World)(fb:Nat)(v i:Value)(wr:World):Prop:=
 ∃(toks:List Tok) (a why fa:Int),i = .int .i64 a/\Hid (TkInv s w fb v wr toks a why fa)
def fltOf:Option Value->Int
 |some (.int _ q)=>q
 |_=>1
def tkMu(n fb:Nat)(i:Value)(wr:World):Nat:=if fltOf (wr.cell? ⟨fb,0,none⟩)=0 then n+1 - (intOf i).toNat else 0
theorem out_own{w wr w2:World}{v:Value}{toks:List Tok}(h:wr.ownsRow (w.heap.size+1) 73 4 v toks.length (tokCells toks))
  (hb:∀k,w.heap.size+1<=k->w2.heap[k]?=wr.heap[k]?):w2.ownsRow w.heap.size 73 4 v toks.length (tokCells toks):=by
 refine⟨h.1,?_⟩;rcases h.2 with h|⟨g,cap,a,l,i,j,b,c,d,f⟩
 ·exact .inl h
 ·exact .inr ⟨g,cap,a,l,by omega,by rw[hb g i];exact j,b,c,d,f⟩
theorem infoTok:(Tryz.prog.info? 73).map (fun i=>(i.zero,i.size,i.bytes))=some (some (.agg #[Ji 0,Je,Ji 0,Ji 0]),4,40):=by kernel_rfl
theorem Qft:∃i0:TypeInfo,Tryz.prog.info? 73=some i0/\i0.zero=some (.agg #[Ji 0,Je,Ji 0,Ji 0])/\i0.size=4/\i0.bytes=40:=by
 obtain⟨i0,b,a⟩:=Option.map_eq_some_iff.1 infoTok;simp only[Prod.mk.injEq]at a;exact⟨i0,b,a⟩
abbrev six(w:World)(b c:Nat)(q0 q1 q2 q3 q4 q5:Value):World:=
 (((((w.setCell ⟨b,0,none⟩ q0).setCell ⟨b,1,none⟩ q1).setCell ⟨b,2,none⟩ q2).setCell ⟨b,3,none⟩ q3).setCell ⟨c,0,none⟩ q4).setCell ⟨c,1,none⟩ q5
theorem Qr(w:World)(c:Nat)(q4 q5 p0 p1:Value)(h:w.heap[c]?=some (.cells #[p0,p1] 31)):((w.setCell (Ja c 0) q4).setCell (Ja c 1) q5).heap[c]?=some (.cells #[q4,q5] 31):=
 heap_setCell_same _ c 1 _ _ q5 (heap_setCell_same _ c 0 _ _ q4 h)
theorem Qsu{w w':World}{B:Nat}{v:Value}{n:Nat}{xs:List Value}(h:w.ownsRow B 73 4 v n xs)(hb:∀(g:Nat) (cur:Array Value),w.heap[g]?=some (.cells cur 73)->w'.heap[g]?=w.heap[g]?):w'.ownsRow B 73 4 v n xs:=by
 refine⟨h.1,?_⟩;rcases h.2 with h|⟨g,cap,cur,j,i,a,b,c,d,f⟩
 ·exact .inl h
 ·exact .inr ⟨g,cap,cur,j,i,by rw[hb g cur a];exact a,b,c,d,f⟩
theorem Qfe(wr:World)(q0 q1 q2 q3:Value):∀j u,([q0,q1,q2,q3]:List Value)[j]?=some u->(wr.alloc (.cells #[q0,q1,q2,q3] 73)).cell? (((Ja wr.heap.size 0):Addr).add j)=some u:=by
 intro j u a
 match j,a with
 | 0,a=>simp at a;subst a;simp[Addr.add]
 | 1,a=>simp at a;subst a;simp[Addr.add]
 | 2,a=>simp at a;subst a;simp[Addr.add]
 | 3,a=>simp at a;subst a;simp[Addr.add]
theorem Qig(k n m:Int)(b:ByteArray):∀u∈([Ji k,.string b,Ji n,Ji m]:List Value),u.oneCell'=true:=by
 intro u a;simp at a;rcases a with rfl|rfl|rfl|rfl<;>rfl
theorem Qhk(toks:List Tok)(o:Out)(w:Int)(a:Nat)(h:o = .bad w a):o.app toks = .bad w a:=by subst h;rfl
def tkStore(p v:Value):Sem Unit:=Instr.storeAt 73 p v
theorem Qdr(p v:Value):Instr.storeAt 73 p v=tkStore p v:=rfl
def flStore(p v:Value):Sem Unit:=Instr.storeAt 31 p v
theorem Qhf(p v:Value):Instr.storeAt 31 p v=flStore p v:=rfl
def tkLoad(x:Value):Sem Value:=Instr.loadAt 73 x
theorem Qej(x:Value):Instr.loadAt 73 x=tkLoad x:=rfl
def flLoad(x:Value):Sem Value:=Instr.loadAt 31 x
theorem Qjc(x:Value):Instr.loadAt 31 x=flLoad x:=rfl
theorem Qlf:(Tryz.prog.info? 73).map (·.size)=some 4:=by kernel_rfl
theorem Qle:(Tryz.prog.info? 31).map (·.size)=some 2:=by kernel_rfl
theorem fl_new(w:World)(a b:Int):(flStore (.pointer (Js w.heap.size)) (.agg #[Ji a,Ji b])).run Tryz.prog (w.alloc (.cells #[Ji 0,Ji 0] 31)) = .ok () (w.alloc (.cells #[Ji a,Ji b] 31)):=
 run_storeAt_new w 31 _ _ Qle rfl (by simp[Value.oneCell'])
theorem Qlt{w:World}{b:Nat}{p0 p1:Value}(h:w.heap[b]?=some (.cells #[p0,p1] 31))(q0 q1:Int):
  (flStore (.pointer (Js b)) (.agg #[Ji q0,Ji q1])).run Tryz.prog w = .ok () ((w.setCell (Ja b 0) (Ji q0)).setCell (Ja b 1) (Ji q1)):=by
 refine run_storeAt_mid w b 0 31 #[Ji q0,Ji q1] (fun j a=>⟨?_,Lib.frozen_of_heap h _⟩) Qle (by simp[Value.oneCell']);have a:j<2:=a;rw[Lib.cell_of_heap h];rcases(by omega:j=0∨j=1) with rfl|rfl<;>rfl
theorem Qth{w:World}{b:Nat}{p0 p1 p2 p3:Value}(h:w.heap[b]?=some (.cells #[p0,p1,p2,p3] 73))(k n a:Int)(t:ByteArray):
  (tkStore (.pointer (Js b)) (.agg #[Ji k,.string t,Ji n,Ji a])).run Tryz.prog w =
   .ok () ((((w.setCell (Ja b 0) (Ji k)).setCell (Ja b 1) (.string t)).setCell (Ja b 2) (Ji n)).setCell (Ja b 3) (Ji a)):=by
 refine run_storeAt_mid w b 0 73 #[Ji k,.string t,Ji n,Ji a] (fun j c=>⟨?_,Lib.frozen_of_heap h _⟩) Qlf (by simp[Value.oneCell']);have c:j<4:=c;rw[Lib.cell_of_heap h];rcases(by omega:j=0∨j=1∨j=2∨j=3) with rfl|rfl|rfl|rfl<;>rfl
theorem Qct{w:World}{b:Nat}{q0 q1:Value}(h:w.heap[b]?=some (.cells #[q0,q1] 31)):
  (flLoad (.pointer (Js b))).run Tryz.prog w = .ok (.agg #[q0,q1]) w:=by
 refine run_loadAt_mid w b 0 31 [q0,q1] _ (fun q v a=>?_) Tryz.underlying31 rfl Qle;rw[Lib.cell_of_heap h,Nat.zero_add,<- a];simp
theorem Qif{w:World}{b:Nat}{q0 q1 q2 q3:Value}(h:w.heap[b]?=some (.cells #[q0,q1,q2,q3] 73)):
  (tkLoad (.pointer (Js b))).run Tryz.prog w = .ok (.agg #[q0,q1,q2,q3]) w:=by
 refine run_loadAt_mid w b 0 73 [q0,q1,q2,q3] _ (fun q v a=>?_) Tryz.underlying73 rfl Qlf;rw[Lib.cell_of_heap h,Nat.zero_add,<- a];simp
structure Wrote(w wr w2 w4:World)(fb:Nat)(T:TV):Prop where
 eq:w4=six w2 wr.heap.size fb (.int .i64 T.kd) (.string T.tx) (.int .i64 T.nm) (.int .i64 T.at_) (.int .i64 T.why) (.int .i64 T.fa)
 ft:w4.heap[wr.heap.size]?=some (.cells #[.int .i64 T.kd,.string T.tx,.int .i64 T.nm,.int .i64 T.at_] 73)
 ff:w4.heap[fb]?=some (.cells #[.int .i64 T.why,.int .i64 T.fa] 31)
 fr:w4.heap[w.heap.size]?=some fltZ
 bel:Below w.heap.size w w4
theorem last{w wr:World}(hb:Below w.heap.size w wr)(hr:wr.heap[w.heap.size]?=some fltZ)(p q:Int):
  ∃w9,(flStore (.pointer (Js w.heap.size)) (.agg #[Ji p,Ji q])).run Tryz.prog wr = .ok () w9/\w9.cell? (Ja w.heap.size 0)=some (Ji p)/\w9.cell? (Ja w.heap.size 1)=some (Ji q) /\
   Below w.heap.size w w9/\(∀k,w.heap.size+1<=k->w9.heap[k]?=wr.heap[k]?):=by
 have a:=Qr wr w.heap.size (Ji p) (Ji q) _ _ hr;refine⟨_,Qlt hr p q,by rw[Lib.cell_of_heap a];rfl,by rw[Lib.cell_of_heap a];rfl,(hb.setCell (p:=(Ja w.heap.size 0)) (Nat.le_refl _) _).setCell (p:=(Ja w.heap.size 1)) (Nat.le_refl _) _,fun k b=>?_⟩;rw[heap_setCell_other _ _ _ _ (by show k≠w.heap.size;omega),heap_setCell_other _ _ _ _ (by show k≠w.heap.size;omega)]
attribute [local go_sem ↓] Qdr Qhf Qej Qjc
end
section

inductive Ex where
 |mk (kind n:Int) (s:Txt) (kids:List Ex) (at_:Int)
namespace Ex
def kind:Ex->Int|mk k _ _ _ _=>k
def num:Ex->Int|mk _ n _ _ _=>n
def txt:Ex->Txt|mk _ _ s _ _=>s
def kids:Ex->List Ex|mk _ _ _ l _=>l
def at_:Ex->Int|mk _ _ _ _ a=>a

def none:Ex:=mk 0 0 [] [] 0
end Ex
structure Fld where
 name:Txt
 type:Txt
structure Ctr where
 name:Txt
 fields:List Fld
structure Typ where
 name:Txt
 sub:Txt
 ctors:List Ctr
 at_:Int
structure Dcl where
 name:Txt
 cols:List Fld
 input:Bool
 output:Bool
 at_:Int
structure Ini where
 name:Txt
 comp:Txt
 at_:Int
structure Atm where
 rel:Txt
 args:List Ex
 at_:Int
def Atm.none:Atm:=⟨[],[],0⟩
structure Lt where
 kind:Int
 atom:Atm
 op:Txt
 l:Ex
 r:Ex
 at_:Int
structure Cls where
 head:Atm
 body:List Lt
 at_:Int

inductive Pg where
 |mk (types:List Typ) (decls:List Dcl) (comps:List (Txt×List Txt×Pg×Int)) (inits:List Ini) (clauses:List Cls)
namespace Pg
def types:Pg->List Typ|mk a _ _ _ _=>a
def decls:Pg->List Dcl|mk _ a _ _ _=>a
def comps:Pg->List (Txt×List Txt×Pg×Int)|mk _ _ a _ _=>a
def inits:Pg->List Ini|mk _ _ _ a _=>a
def clauses:Pg->List Cls|mk _ _ _ _ a=>a
def none:Pg:=mk [] [] [] [] []
end Pg

inductive Rs (α : Type) where
 |bad (why at_:Int) (left:List Tok)
 |ok (a:α) (left:List Tok) (items:Nat)
abbrev Pr(α : Type):=List Tok->Nat->Rs α
def Rs.bind{α β : Type}:Rs α -> (α -> Pr β)->Rs β
 | .bad w a l,_=>.bad w a l
 | .ok x l i,f=>f x l i
def Rs.map{α β : Type}(f:α -> β):Rs α -> Rs β
 | .bad w a l=>.bad w a l
 | .ok x l i=>.ok (f x) l i
section
variable (e:Nat)

def ahd(n:Nat)(l:List Tok):Tok:=l.getD n ⟨0,[],0,e⟩
def refuse{α : Type}(why:Int):Pr α :=fun l _=>.bad why (ahd e 0 l).at_ l

def sgn(l:List Tok):Txt:=if (ahd e 0 l).kind=4 then (ahd e 0 l).text else []
def want(s:Txt):Pr Unit:=fun l i=>if sgn e l=s then .ok () (l.drop 1) i else refuse e 10 l i
def choose(ss:List Txt):Pr Txt:=fun l i=>if sgn e l∈ss then .ok (ahd e 0 l).text (l.drop 1) i else refuse e 10 l i
def nmQ:Pr Txt:=fun l i=>if (ahd e 0 l).kind=1 then .ok (ahd e 0 l).text (l.drop 1) i else refuse e 10 l i

def isW1(t:Tok):Bool:=decide (t.kind=1)&&decide (t.text≠[95]) && !t.text.contains 46
def wordQ:Pr Txt:=fun l i=>if isW1 (ahd e 0 l)=true then .ok (ahd e 0 l).text (l.drop 1) i else refuse e 10 l i
def callN(l:List Tok):Bool:=decide ((ahd e 0 l).kind=1)&&decide ((ahd e 1 l).kind=4)&&decide ((ahd e 1 l).text=[40])

def listL{α : Type}(sep:Txt)(most:Nat)(part:Pr α):Nat->List α -> Pr (List α)
 | 0,acc,l,i=>.ok acc l i
 |f+1,acc,l,i=>if acc.length=most then refuse e 3 l i else
  (part l i).bind fun x l i=>if sgn e l=sep then listL sep most part f (acc++[x]) (l.drop 1) i else .ok (acc++[x]) l i
def listP{α : Type}(sep:Txt)(most:Nat)(part:Pr α):Pr (List α):=fun l i=>listL e sep most part (l.length+1) [] l i
def encl{α : Type}(op cl:Txt)(part:Pr α):Pr (List α):=fun l i=>
 (want e op l i).bind fun _ l i=>if sgn e l=cl then .ok [] (l.drop 1) i else
  (listP e [44] 8 part l i).bind fun xs l i=>(want e cl l i).map fun _=>xs

def opE(s:Txt)(x y:Ex):Ex:=.mk 5 0 s [x,y] x.at_
def joinL(operand:Pr Ex)(signs:List Txt):Nat->Ex->Pr Ex
 | 0,x,l,i=>.ok x l i
 |f+1,x,l,i=>if sgn e l∈signs then (operand (l.drop 1) i).bind fun y l2 i=>joinL operand signs f (opE (ahd e 0 l).text x y) l2 i else .ok x l i
def joined(operand:Pr Ex)(signs:List Txt):Pr Ex:=fun l i=>(operand l i).bind fun x l i=>joinL e operand signs (l.length+1) x l i

def signed(E F:Pr Ex):Pr Ex:=fun l i=>
 (choose e [[45],[40],[36]] l i).bind fun s l2 i=>
  if s=[45] then (F l2 i).map fun x=>if (ahd e 0 l2).kind=2 then .mk 2 (- x.num) [] [] (ahd e 0 l).at_ else opE [45] (.mk 2 0 [] [] (ahd e 0 l).at_) x
  else if s=[40] then (E l2 i).bind fun x l i=>(want e [41] l i).map fun _=>x
  else (wordQ e l2 i).bind fun w l3 i=>(encl e [40] [41] E l3 i).map fun ks=>.mk 6 0 w ks (ahd e 0 l).at_
def factorB(E F:Pr Ex):Pr Ex:=fun l i=>
 if (ahd e 0 l).kind=2 then .ok (.mk 2 (ahd e 0 l).num [] [] (ahd e 0 l).at_) (l.drop 1) i
 else if (ahd e 0 l).kind=3 then .ok (.mk 3 0 (ahd e 0 l).text [] (ahd e 0 l).at_) (l.drop 1) i
 else if (ahd e 0 l).kind=1 then
  if (ahd e 0 l).text=[95] then .ok (.mk 4 0 [] [] (ahd e 0 l).at_) (l.drop 1) i
  else (wordQ e l i).map fun w=>.mk 1 0 w [] (ahd e 0 l).at_
 else signed e E F l i
def exprB(F:Pr Ex):Pr Ex:=joined e (joined e F [[42],[47],[37]]) [[43],[45]]

def exD:Nat->Pr Ex×Pr Ex
 | 0=>(refuse e 4,refuse e 4)
 |d+1=>(exprB e (exD d).2,factorB e (exD d).1 (exD d).2)
def atomP(d:Nat):Pr Atm:=fun l i=>(nmQ e l i).bind fun n l2 i=>(encl e [40] [41] (exD e d).1 l2 i).map fun zs=>⟨n,zs,(ahd e 0 l).at_⟩
def litP(d:Nat):Pr Lt:=fun l i=>
 if sgn e l=[33] then (atomP e d (l.drop 1) i).map fun a=>⟨2,a,[],.none,.none,(ahd e 0 l).at_⟩
 else if callN e l=true then (atomP e d l i).map fun a=>⟨1,a,[],.none,.none,(ahd e 0 l).at_⟩
 else ((exD e d).1 l i).bind fun x l2 i=>(choose e [[61],[33,61],[60],[60,61],[62],[62,61]] l2 i).bind fun o l3 i=>((exD e d).1 l3 i).map fun y=>⟨3,.none,o,x,y,(ahd e 0 l).at_⟩
def clauseP(d:Nat):Pr Cls:=fun l i=>
 (atomP e d l i).bind fun h l2 i=>
  if sgn e l2=[58,45] then (listP e [44] 16 (litP e d) (l2.drop 1) i).bind fun b l3 i=>(want e [46] l3 i).map fun _=>⟨h,b,(ahd e 0 l).at_⟩
  else (want e [46] l2 i).map fun _=>⟨h,[],(ahd e 0 l).at_⟩
def fieldP:Pr Fld:=fun l i=>(wordQ e l i).bind fun n l i=>(want e [58] l i).bind fun _ l i=>(nmQ e l i).map fun t=>⟨n,t⟩
def ctorP:Pr Ctr:=fun l i=>(wordQ e l i).bind fun n l i=>(encl e [123] [125] (fieldP e) l i).map fun fs=>⟨n,fs⟩

def noMost:Nat:=9223372036854775807
def typeP:Pr Typ:=fun l i=>
 (wordQ e (l.drop 1) i).bind fun n l2 i=>(choose e [[60,58],[61]] l2 i).bind fun s l3 i=>
  if s=[60,58] then (nmQ e l3 i).map fun t=>⟨n,t,[],(ahd e 0 l).at_⟩ else (listP e [124] noMost (ctorP e) l3 i).map fun cs=>⟨n,[],cs,(ahd e 0 l).at_⟩
def wIn:Txt:=[105,110,112,117,116]
def wOut:Txt:=[111,117,116,112,117,116]
def flagL:Nat->Bool->Bool->Pr (Bool×Bool)
 | 0,a,b,l,i=>.ok (a,b) l i
 |f+1,a,b,l,i=>if (ahd e 0 l).kind=1/\callN e l=false then
   (if (ahd e 0 l).text=wIn then flagL f true b (l.drop 1) i else if (ahd e 0 l).text=wOut then flagL f a true (l.drop 1) i else .ok (a,b) l i)
  else .ok (a,b) l i
def declP:Pr Dcl:=fun l i=>
 (wordQ e (l.drop 1) i).bind fun n l2 i=>(encl e [40] [41] (fieldP e) l2 i).bind fun cs l3 i=>(flagL e (l3.length+1) false false l3 i).map fun p=>⟨n,cs,p.1,p.2,(ahd e 0 l).at_⟩
def initP:Pr Ini:=fun l i=>(wordQ e (l.drop 1) i).bind fun n l2 i=>(want e [61] l2 i).bind fun _ l3 i=>(nmQ e l3 i).map fun c=>⟨n,c,(ahd e 0 l).at_⟩

def compB(B:Pr Pg):Pr (Txt×List Txt×Pg×Int):=fun l i=>
 (wordQ e (l.drop 1) i).bind fun n l2 i=>
  (if sgn e l2=[58] then listP e [44] noMost (nmQ e) (l2.drop 1) i else .ok [] l2 i).bind fun bs l3 i=>
   (want e [123] l3 i).bind fun _ l4 i=>(B l4 i).bind fun p l5 i=>(want e [125] l5 i).map fun _=>(n,bs,p,(ahd e 0 l).at_)

def itemP(d:Nat)(C:Pr (Txt×List Txt×Pg×Int))(p:Pg):Pr Pg:=fun l i=>
 if i=96 then refuse e 3 l i
 else if sgn e l=[46,116,121,112,101] then (typeP e l (i+1)).map fun x=>.mk (p.types++[x]) p.decls p.comps p.inits p.clauses
 else if sgn e l=[46,100,101,99,108] then (declP e l (i+1)).map fun x=>.mk p.types (p.decls++[x]) p.comps p.inits p.clauses
 else if sgn e l=[46,99,111,109,112] then (C l (i+1)).map fun x=>.mk p.types p.decls (p.comps++[x]) p.inits p.clauses
 else if sgn e l=[46,105,110,105,116] then (initP e l (i+1)).map fun x=>.mk p.types p.decls p.comps (p.inits++[x]) p.clauses
 else (clauseP e d l (i+1)).map fun x=>.mk p.types p.decls p.comps p.inits (p.clauses++[x])

def isEnd(top:Bool)(l:List Tok):Bool:=if top then decide ((ahd e 0 l).kind=0)&&decide ((ahd e 0 l).text=[]) else decide ((ahd e 0 l).kind=4)&&decide ((ahd e 0 l).text=[125])
def progL(top:Bool)(d:Nat)(C:Pr (Txt×List Txt×Pg×Int)):Nat->Pg->Pr Pg
 | 0,p,l,i=>.ok p l i
 |f+1,p,l,i=>if isEnd e top l=true then .ok p l i else (itemP e d C p l i).bind fun p l i=>progL top d C f p l i

def progD:Nat->Bool->Pr Pg
 | 0,top=>fun l i=>progL e top 0 (refuse e 4) (l.length+1) .none l i
 |d+1,top=>fun l i=>progL e top (d+1) (compB e (progD d false)) (l.length+1) .none l i
end

def synP(s:Txt)(toks:List Tok):Rs Pg:=progD s.length 32 true toks 0
end
section
open Go.RowKit
theorem bnw{w w':World}{o:Obj}(h:w'=w.alloc o):Below w.heap.size w w':=by rw[h];exact(Below.refl _ w).alloc (Nat.le_refl _) _
theorem nnw{w w':World}{cs:Array Value}{T:TypeId}(h:w'=w.alloc (.cells cs T)):w'.heap[w.heap.size]?=some (.cells cs T (0,0)):=by rw[h];exact heap_alloc_new w _
structure Kp(rb:Nat)(w w':World):Prop where
 os:w'.os=w.os
 tape:w'.tape=w.tape
 output:w'.output=w.output
 size:w.heap.size<=w'.heap.size
 block:∀k,k<w.heap.size->k≠rb->w'.heap[k]?=w.heap[k]?
theorem Kp.refl(rb:Nat)(w:World):Kp rb w w:=⟨rfl,rfl,rfl,Nat.le_refl _,fun _ _ _=>rfl⟩
theorem Kp.trans{rb:Nat}{a b c:World}(h:Kp rb a b)(k:Kp rb b c):Kp rb a c:=⟨k.os.trans h.os,k.tape.trans h.tape,k.output.trans h.output,Nat.le_trans h.size k.size,fun i f d=>(k.block i (by have:=h.size;omega) d).trans (h.block i f d)⟩
theorem Kp.of_below{rb:Nat}{w w':World}(h:Below w.heap.size w w'):Kp rb w w':=⟨h.os,h.tape,h.output,h.size,fun k a _=>h.block k a⟩
theorem Kp.below{rb B:Nat}{w w':World}(h:Kp rb w w')(hB:B<=w.heap.size)(hr:B<=rb):Below B w w':=⟨h.os,h.tape,h.output,h.size,fun k a=>h.block k (by omega) (by omega)⟩
theorem Qaa{w:World}{k:Nat}{o:Obj}(h:w.heap[k]?=some o):k<w.heap.size:=(Array.getElem?_eq_some_iff.1 h).1
theorem Qad{w:World}{b:Nat}{cs:Array Value}{t:TypeId}{f:Nat×Nat}(h:w.heap[b]?=some (.cells cs t f))(i:Nat):w.cell? (Ja b i)=cs[i]?:=by simp[World.cell?,h]
structure TokAt(w:World)(b o:Nat)(t:Tok):Prop where
 c0:w.cell? ⟨b,o,none⟩=some (.int .i64 t.kind)
 c1:w.cell? ⟨b,o+1,none⟩=some (str t.text)
 c2:w.cell? ⟨b,o+2,none⟩=some (.int .i64 t.num)
 c3:w.cell? ⟨b,o+3,none⟩=some (.int .i64 (t.at_:Int))
theorem TokAt.same{w w':World}{b o:Nat}{t:Tok}(h:TokAt w b o t)(hb:w'.heap[b]?=w.heap[b]?):TokAt w' b o t:=by
 obtain⟨a,c,d,f⟩:=h;simp only[World.cell?]at a c d f;constructor<;>simp only[World.cell?]<;>rw[hb]<;>assumption
theorem TokAt.lt{w:World}{b o:Nat}{t:Tok}(h:TokAt w b o t):b<w.heap.size:=World.block_lt_of_cell? w _ h.c0
def TokSl(rb:Nat)(w:World)(v:Value)(l:List Tok):Prop:=∃a cap,v = .slice a l.length cap/\l.length<=cap/\cap<=maxLen /\ ∀j t,l[j]?=some t -> ∃b o,a=some ⟨b,o,none⟩/\b<rb/\TokAt w b (o+j*4) t
theorem TokSl.kp{rb:Nat}{w w':World}{v:Value}{l:List Tok}(h:TokSl rb w v l)(k:Kp rb w w'):TokSl rb w' v l:=by
 obtain⟨a,cap,g,i,m,n⟩:=h;refine⟨a,cap,g,i,m,fun j t q=>?_⟩;obtain⟨b,o,d,f,c⟩:=n j t q;exact⟨b,o,d,f,c.same (k.block b c.lt (by omega))⟩
abbrev tokV(t:Tok):Value:=.agg #[.int .i64 t.kind,str t.text,.int .i64 t.num,.int .i64 (t.at_:Int)]
def noTok(e:Nat):Tok:=⟨0,[],0,e⟩
theorem Qah{w:World}{b:Nat}{cur:Array Value}{t:TypeId}{f:Nat×Nat}(h:w.heap[b]?=some (.cells cur t f))(i:Nat)(v:Value):(w.setCell (Ja b i) v).heap[b]?=some (.cells (cur.setIfInBounds i v) t f):=by
 obtain⟨a,c⟩:=Array.getElem?_eq_some_iff.1 h;show(w.heap.modify b _)[b]?=_;rw[Array.getElem?_eq_getElem (by rw[Array.size_modify];exact a),Array.getElem_modify_self,c];rfl
theorem hpS{w:World}{p:Addr}{v:Value}{k:Nat}(h:k≠p.block):(w.setCell p v).heap[k]?=w.heap[k]?:=Below.heap_setCell _ _ _ _ h
theorem Kp.set(rb:Nat)(w:World)(i:Nat)(v:Value):Kp rb w (w.setCell (Ja rb i) v):=by
 have h:=(Below.refl 0 w).setCell (p:=(Ja rb i)) (Nat.zero_le _) v;exact⟨h.os,h.tape,h.output,h.size,fun k _ a=>hpS a⟩
end
end Go.Proofs.YtkhndlnadhggkaaGreat
namespace Go.Proofs.YtkhndlnadhggkaaGreat
section
open Go.RowKit
def SgAt(rb:Nat)(w:World)(v:Value)(ss:List Txt):Prop:=∃b off c,v = .slice (some ⟨b,off,none⟩) ss.length c/\b≠rb/\b<w.heap.size /\ ∀j x,ss[j]?=some x->w.cell? ⟨b,off+j,none⟩=some (str x)
theorem SgAt.kp{rb:Nat}{w w':World}{v:Value}{ss:List Txt}(h:SgAt rb w v ss)(k:Kp rb w w'):SgAt rb w' v ss:=by
 obtain⟨b,off,c,d,a,f,g⟩:=h;refine⟨b,off,c,d,a,by have:=k.size;omega,fun j x i=>?_⟩;have:=g j x i;simp only[World.cell?]at this ⊢;rw[k.block b f a];exact this
end
section

def Shr{α : Type}(p:Pr α):Prop:=∀l i x l' i',p l i = .ok x l' i'->l'.length<=l.length
theorem bind_ok{α β : Type}{r:Rs α}{f:α -> Pr β}{x:β}{l:List Tok}{i:Nat}(h:r.bind f = .ok x l i):∃a l1 i1,r = .ok a l1 i1/\f a l1 i1 = .ok x l i:=by
 cases r with
 |bad w a l=>cases h
 |ok a l1 i1=>exact⟨a,l1,i1,rfl,h⟩
theorem map_ok{α β : Type}{r:Rs α}{f:α -> β}{x:β}{l:List Tok}{i:Nat}(h:r.map f = .ok x l i):∃a,r = .ok a l i/\f a=x:=by
 cases r with
 |bad w a l=>cases h
 |ok a l1 i1=>
  simp only[Rs.map,Rs.ok.injEq]at h;obtain⟨b,rfl,rfl⟩:=h;exact⟨a,rfl,b⟩
section
variable {e:Nat}
end
end
section
open Go.RowKit
theorem Kp.keep{rb:Nat}{w w':World}{k:Nat}{o:Obj}(h:Kp rb w w')(hk:w.heap[k]?=some o)(hn:k≠rb):w'.heap[k]?=some o:=(h.block k (Qaa hk) hn).trans hk
theorem Kp.set2{rb:Nat}{w w':World}{k i:Nat}{v:Value}(h:Kp rb w w')(hk:w.heap.size<=k):Kp rb w (w'.setCell (Ja k i) v):=by
 have a:=(Below.refl 0 w').setCell (p:=(Ja k i)) (Nat.zero_le _) v;exact⟨a.os.trans h.os,a.tape.trans h.tape,a.output.trans h.output,Nat.le_trans h.size a.size,fun j b c=>(hpS (by show j≠k;omega)).trans (h.block j b c)⟩
end
section
open Go.RowKit Go.Maps
theorem Qaj{P:Program}(w:World){ops:Array Oper}{rest:List Oper}{o:Oper}{a:Act}{Q:Exit->Act->World->Prop}
  (hg:o.guard=none)(s x:Operand)(t:TypeId)(hop:o.op=Op.call { callee:=Callee.builtin Builtin.append,args:=#[s,x],argTypes:=#[t,t] })
  (v u:Value)(hs:a.eval s=v)(hx:a.eval x=u)(v':Value)(w':World)(hrun:(Builtin.append_ #[t,t] o.type #[v,u]).run P w = .ok v' w')
  (hK:wpList P ops Q rest (a.put o.dst v') w'):wpList P ops Q (o :: rest) a w:=by
 refine wpList_plain hg fun K b=>?_;unfold Oper.wp;simp[execOp,hop,resolve,invoke,builtin,hs,hx,hrun,Result.andThen];exact b _ _ hK
abbrev PS(α : Type):=(Nat->Prop)->World->List Value -> α -> Prop
structure PSok{α : Type}(p:PS α):Prop where
 mono:∀S S' w cs x,p S w cs x->(∀b,b<w.heap.size->S b->S' b)->p S' w cs x
 same:∀S w w' cs x,p S w cs x->w.heap.size<=w'.heap.size->(∀b,S b->b<w.heap.size->w'.heap[b]?=w.heap[b]?)->p S w' cs x
def All{α : Type}(p:PS α)(k:Nat)(S:Nat->Prop)(w:World)(css:List (List Value))(xs:List α):Prop:=css.length=xs.length /\ ∀(j:Nat) (x:α) (cs:List Value),xs[j]?=some x->css[j]?=some cs->cs.length=k/\p S w cs x
def LsAt{α : Type}(p:PS α)(k:Nat)(S:Nat->Prop)(w:World)(v:Value)(xs:List α):Prop:=∃a cap css,v = .slice a xs.length cap/\xs.length<=cap/\cap<=maxLen/\All p k S w css xs/\(xs≠[] -> ∃b,a=some ⟨b,0,none⟩/\S b/\b<w.heap.size /\ ∀j c,css.flatten[j]?=some c->w.cell? ⟨b,j,none⟩=some c)
section
variable {α : Type}{p:PS α}{k:Nat}
theorem All.mono(hp:PSok p){S S':Nat->Prop}{w:World}{css:List (List Value)}{xs:List α}(h:All p k S w css xs)(hS:∀b,b<w.heap.size->S b->S' b):All p k S' w css xs:=
 ⟨h.1,fun j x a c d=>⟨(h.2 j x a c d).1,hp.mono _ _ _ _ _ (h.2 j x a c d).2 hS⟩⟩
theorem All.same(hp:PSok p){S:Nat->Prop}{w w':World}{css:List (List Value)}{xs:List α}(h:All p k S w css xs)(hs:w.heap.size<=w'.heap.size)(hb:∀b,S b->b<w.heap.size->w'.heap[b]?=w.heap[b]?):All p k S w' css xs:=
 ⟨h.1,fun j x a c d=>⟨(h.2 j x a c d).1,hp.same _ _ _ _ _ (h.2 j x a c d).2 hs hb⟩⟩
theorem All.snoc{S:Nat->Prop}{w:World}{css:List (List Value)}{xs:List α}{cs:List Value}{x:α}(h:All p k S w css xs)(hl:cs.length=k)(hx:p S w cs x):All p k S w (css++[cs]) (xs++[x]):=by
 refine⟨by simp[h.1],fun j y c a b=>?_⟩;by_cases d:j<xs.length
 ·
  rw[List.getElem?_append_left d]at a;rw[List.getElem?_append_left (by rw[h.1];exact d)]at b;exact h.2 j y c a b
 rw[List.getElem?_append_right (by omega)]at a;rw[List.getElem?_append_right (by rw[h.1];omega),h.1]at b;have f:j - xs.length=0:=by
  have:=(List.getElem?_eq_some_iff.1 a).1;simp at this;omega
 rw[f]at a b;simp at a b;subst a b;exact⟨hl,hx⟩
theorem LsAt.mono(hp:PSok p){S S':Nat->Prop}{w:World}{v:Value}{xs:List α}(h:LsAt p k S w v xs)(hS:∀b,b<w.heap.size->S b->S' b):LsAt p k S' w v xs:=by
 obtain⟨a,cap,d,j,l,m,n,o⟩:=h;refine⟨a,cap,d,j,l,m,n.mono hp hS,fun q=>?_⟩;obtain⟨b,f,g,c,i⟩:=o q;exact⟨b,f,hS b c g,c,i⟩
theorem LsAt.same(hp:PSok p){S:Nat->Prop}{w w':World}{v:Value}{xs:List α}(h:LsAt p k S w v xs)(hs:w.heap.size<=w'.heap.size)(hb:∀b,S b->b<w.heap.size->w'.heap[b]?=w.heap[b]?):LsAt p k S w' v xs:=by
 obtain⟨a,cap,f,m,n,o,q,r⟩:=h;refine⟨a,cap,f,m,n,o,q.same hp hs hb,fun t=>?_⟩;obtain⟨b,g,d,i,l⟩:=r t;refine⟨b,g,d,by omega,fun j c s=>?_⟩;have:=l j c s;simp only[World.cell?]at this ⊢;rw[hb b d i];exact this
theorem LsAt.nil(S:Nat->Prop)(w:World):LsAt p k S w (Jn) []:=⟨none,0,[],rfl,Nat.le_refl _,Nat.zero_le _,⟨rfl,fun j x a h=>by simp at h⟩,fun h=>absurd rfl h⟩
theorem LsAt.of{base:Nat}{T:TypeId}{w:World}{v:Value}{css:List (List Value)}{xs:List α}(ho:w.ownsRow base T k v xs.length css.flatten)(ha:All p k (fun b=>base<=b) w css xs):LsAt p k (fun b=>base<=b) w v xs:=by
 rcases id ho.2 with ⟨e,d⟩|⟨g,cap,o,e,f,h,m,l,_⟩
 ·
  have n:xs=[]:=List.length_eq_zero_iff.1 d;subst n;rw[e];exact LsAt.nil _ _
 refine⟨some (Ja g 0),cap,css,e,m,l,ha,fun _=>⟨g,rfl,f,Qaa h,fun j c a=>?_⟩⟩;subst e;have i:j<xs.length*k:=by rw[<- ho.1];exact(List.getElem?_eq_some_iff.1 a).1
 rw[World.ownsRow.cellAt ho j i];exact a
def left(rb:Nat)(w:World):Nat:=match w.cell? ⟨rb,0,none⟩ with|some (.slice _ n _)=>n|_=>0
end
theorem infoE:∃i0:TypeInfo,Tryz.prog.info? 59=some i0/\i0.zero=some (.agg #[Ji 0,Ji 0,Je,Jn,Ji 0])/\i0.size=5/\i0.bytes=64:=by
 have h:(Tryz.prog.info? 59).map (fun i=>(i.zero,i.size,i.bytes))=some (some (.agg #[Ji 0,Ji 0,Je,Jn,Ji 0]),5,64):=by kernel_rfl
 obtain⟨i0,b,a⟩:=Option.map_eq_some_iff.1 h;simp only[Prod.mk.injEq]at a;exact⟨i0,b,a⟩
end
end Go.Proofs.YtkhndlnadhggkaaGreat
