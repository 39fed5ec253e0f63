/- A text's tokens, as plain functions on lists of bytes; no program stands in it. -/
import Derived.Lib.Strings
import Derived.Lib.Index
set_option maxRecDepth 100000
set_option maxHeartbeats 32000000
namespace Go.Proofs.YtmfpbepifnedjaaGreat
abbrev Jn:Value:=.slice none 0 0
abbrev Je:Value:=.string ⟨#[]⟩
abbrev Ji(x:Int):Value:=.int .i64 x
abbrev Ja(b i:Nat):Addr:=⟨b,i,none⟩
abbrev Js(b:Nat):Option Addr:=some ⟨b,0,none⟩
theorem JE{α:Sort _}(a:α):∃x,x=a:=⟨_,rfl⟩
theorem JF{α:Sort _}(a:α):∃x,a=x:=⟨_,rfl⟩
section
def isL(n:Int):Bool:=decide (n=95) || (decide (65<=n)&&decide (n<=90)) || (decide (97<=n)&&decide (n<=122))
def isD(n:Int):Bool:=decide (48<=n)&&decide (n<=57)
def inW(n:Int):Bool:=isL n || isD n
def isB(n:Int):Bool:=decide (n=32) || decide (n=9) || decide (n=10) || decide (n=13)
abbrev Txt:=List UInt8

def bv(c:UInt8):Int:=c.toNat
theorem Qpy{n:Int}(h:isL n=true):inW n=true:=by unfold inW;rw[h];rfl
theorem inW_D{n:Int}(h:isD n=true):inW n=true:=by unfold inW;rw[h];simp

def nmLen:Txt->Nat
 | []=>0
 | [c]=>if inW (bv c) then 1 else 0
 |c :: d :: u=>if inW (bv c) then nmLen (d :: u)+1 else if c=46/\isL (bv d)=true then nmLen u+2 else 0
theorem Qth{c:UInt8}(h:inW (bv c)=true):∀t:Txt,nmLen (c :: t)=nmLen t+1
 | []=>by simp[nmLen,h]
 |d :: u=>by simp[nmLen,h]
theorem inW46:inW (bv 46)=false:=by decide
theorem nm_dot{d:UInt8}(h:isL (bv d)=true)(u:Txt):nmLen (46 :: d :: u)=nmLen u+2:=by simp[nmLen,inW46,h]
theorem nm_stop{c:UInt8}{t:Txt}(h:inW (bv c)=false)(h2:∀d u,t=d :: u->c=46->isL (bv d)=false):nmLen (c :: t)=0:=by
 cases t with
 |nil=>simp[nmLen,h]
 |cons d u=>
  rw[nmLen,if_neg (by simp[h]),if_neg];rintro⟨b,a⟩;rw[h2 d u rfl b]at a;exact absurd a (by simp)
theorem Qti:∀r:Txt,nmLen r<=r.length
 | []=>Nat.le_refl _
 | [c]=>by unfold nmLen;split<;>simp
 |c :: d :: u=>by
  unfold nmLen;split
  ·have:=Qti (d :: u);simp only[List.length_cons]at this ⊢;omega
  split
  ·have:=Qti u;simp only[List.length_cons]at this ⊢;omega
  ·simp
def wcn:Txt->Nat
 | []=>0
 |c :: t=>if inW (bv c) then wcn t+1 else 0

def wdLen:Txt->Nat
 | []=>0
 |c :: t=>if isL (bv c) then wcn t+1 else 0
theorem Qgr(c:UInt8)(t:Txt):wdLen (c :: t)=if isL (bv c) then wcn t+1 else 0:=rfl
theorem Qva:∀r:Txt,wcn r<=r.length
 | []=>Nat.le_refl _
 |c :: t=>by
  unfold wcn;split
  ·have:=Qva t;simp only[List.length_cons];omega
  ·simp
theorem wd_le(r:Txt):wdLen r<=r.length:=by
 cases r with
 |nil=>exact Nat.le_refl _
 |cons c t=>
  rw[Qgr];split
  ·have:=Qva t;simp only[List.length_cons];omega
  ·simp
def noW:Txt->Bool
 | []=>true
 |c :: _=>!inW (bv c)
theorem Qqw:∀r:Txt,noW (r.drop (wcn r))=true
 | []=>rfl
 |c :: t=>by
  unfold wcn;split
  ·exact Qqw t
  ·rename_i h;simp[noW,h]
theorem Qqt:∀r:Txt,nmLen r=wcn r+nmLen (r.drop (wcn r))
 | []=>rfl
 |c :: t=>by
  cases h:inW (bv c) with
  |true=>
   have e:wcn (c :: t)=wcn t+1:=by simp[wcn,h]
   rw[Qth h,e,Qqt t,List.drop_succ_cons];omega
  |false=>
   have e:wcn (c :: t)=0:=by simp[wcn,h]
   rw[e,List.drop_zero];omega
theorem nm_wd{r:Txt}(h:0<wdLen r):nmLen r=wdLen r+nmLen (r.drop (wdLen r)):=by
 cases r with
 |nil=>exact absurd h (by simp[wdLen])
 |cons c t=>
  cases a:isL (bv c) with
  |false=>simp[wdLen,a]at h
  |true=>
   have e:wdLen (c :: t)=wcn t+1:=by simp[wdLen,a]
   rw[Qth (Qpy a),e,List.drop_succ_cons,Qqt t];omega
theorem Quy{r:Txt}(h:0<wdLen r):noW (r.drop (wdLen r))=true:=by
 cases r with
 |nil=>exact absurd h (by simp[wdLen])
 |cons c t=>
  cases a:isL (bv c) with
  |false=>simp[wdLen,a]at h
  |true=>
   have e:wdLen (c :: t)=wcn t+1:=by simp[wdLen,a]
   rw[e,List.drop_succ_cons];exact Qqw t
theorem nm_go{t:Txt}(h:0<wdLen t):nmLen (46 :: t)=1+wdLen t+nmLen (t.drop (wdLen t)):=by
 cases t with
 |nil=>exact absurd h (by simp[wdLen])
 |cons d u=>
  cases a:isL (bv d) with
  |false=>simp[wdLen,a]at h
  |true=>
   have e:wdLen (d :: u)=wcn u+1:=by simp[wdLen,a]
   rw[nm_dot a,e,List.drop_succ_cons,Qqt u];omega
theorem nm_end{r:Txt}(h:noW r=true)(h2:∀t,r=46 :: t->wdLen t=0):nmLen r=0:=by
 cases r with
 |nil=>rfl
 |cons c t=>
  refine nm_stop (by simpa[noW] using h) ?_;rintro d u rfl rfl;have:=h2 _ rfl
  cases a:isL (bv d) with
  |false=>rfl
  |true=>simp[wdLen,a]at this
def dcn:Txt->Nat
 | []=>0
 |c :: t=>if isD (bv c) then dcn t+1 else 0
def dgLen:Txt->Nat
 | []=>0
 |c :: t=>if c=48 then 1 else dcn (c :: t)
theorem Qic(c:UInt8)(t:Txt):dgLen (c :: t)=if c=48 then 1 else dcn (c :: t):=rfl
theorem Qum:∀r:Txt,dcn r<=r.length
 | []=>Nat.le_refl _
 |c :: t=>by
  unfold dcn;split
  ·have:=Qum t;simp only[List.length_cons];omega
  ·simp
theorem dg_le(r:Txt):dgLen r<=r.length:=by
 cases r with
 |nil=>exact Nat.le_refl _
 |cons c t=>
  rw[Qic];split
  ·simp
  ·exact Qum _

inductive TR where
 |ok (v:Txt) (n:Nat)
 |bad (o:Nat)
 |never
def TR.pre(b:UInt8)(k:Nat):TR->TR
 |ok v n=>ok (b :: v) (n+k)
 |bad o=>bad (o+k)
 |never=>never
def esc(c:UInt8):Option UInt8:=if c=34∨c=92 then some c else if c=110 then some 10 else if c=116 then some 9 else none
def txScan:Txt->TR
 | []=>.never
 | [c]=>if c=34 then .ok [] 1 else if c=10 then .bad 0 else if c=92 then .bad 0 else .never
 |c :: d :: t=>if c=34 then .ok [] 1 else if c=10 then .bad 0 else if c=92 then (match esc d with|none=>.bad 0|some b=>(txScan t).pre b 2) else (txScan (d :: t)).pre c 1

def hds:List Txt:=[[46,100,101,99,108],[46,116,121,112,101],[46,99,111,109,112],[46,105,110,105,116]]
def twos:List Txt:=[[58,45],[60,58],[60,61],[62,61],[33,61]]
def ones:Txt:=[40,41,123,125,44,46,58,124,33,61,60,62,43,45,42,47,37,36]
def pre(p r:Txt):Bool:=Lib.hasPrefix r p
def isHd(r:Txt):Bool:=hds.any (fun h=>pre h r)&&noW (r.drop 5)
def sgLen(r:Txt):Nat:=if isHd r then 5 else if twos.any (fun h=>pre h r) then 2 else if ones.any (fun c=>pre [c] r) then 1 else 0

def vl:Nat->Txt->Nat
 |acc,[]=>acc
 |acc,c :: l=>vl (acc*10+(c.toNat - 48)) l
inductive Res where
 |tok (kind:Int) (text:Txt) (num:Int) (len:Nat)
 |bad (why:Int) (off:Nat)
def nmRes(r:Txt):Res:=if 64<nmLen r then .bad 2 0 else .tok 1 (r.take (nmLen r)) 0 (nmLen r)
def dgRes(r:Txt):Res:=if noW (r.drop (dgLen r))=false then .bad 7 (dgLen r) else if 9223372036854775807<vl 0 (r.take (dgLen r)) then .bad 8 0 else .tok 2 [] (vl 0 (r.take (dgLen r))) (dgLen r)
def txRes(t:Txt):Res:=match txScan t with | .ok v n=>.tok 3 v 0 (n+1) | .bad o=>.bad 7 (o+1) | .never=>.bad 7 0
def sgRes(r:Txt):Res:=if sgLen r=0 then .bad 7 0 else .tok 4 (r.take (sgLen r)) 0 (sgLen r)

def tokAt:Txt->Res
 | []=>.bad 7 0
 |c :: t=>if isL (bv c) then nmRes (c :: t) else if isD (bv c) then dgRes (c :: t) else if c=34 then txRes t else sgRes (c :: t)
inductive G where
 |none
 |gap (n:Nat)
 |never

def lnLen:Txt->Nat
 | []=>0
 |c :: t=>if c=10 then 0 else lnLen t+1
def cEnd:Txt->Option Nat
 | []=>none
 |c :: t=>if pre [42,47] (c :: t) then some 0 else (cEnd t).map (· + 1)
def cGap(t:Txt):G:=match cEnd t with|some n=>.gap (n+4)|none=>.never

def gapAt:Txt->G
 | []=>.none
 |c :: t=>if isB (bv c) then .gap 1 else if pre [47,47] (c :: t) then .gap (lnLen (c :: t)) else if pre [47,42] (c :: t) then cGap (t.drop 1) else .none
theorem Qeo(c:UInt8)(t:Txt):gapAt (c :: t)=if isB (bv c) then .gap 1 else if pre [47,47] (c :: t) then .gap (lnLen (c :: t)) else if pre [47,42] (c :: t) then cGap (t.drop 1) else .none:=rfl
theorem Qdz(c:UInt8)(t:Txt):tokAt (c :: t)=if isL (bv c) then nmRes (c :: t) else if isD (bv c) then dgRes (c :: t) else if c=34 then txRes t else sgRes (c :: t):=rfl
structure Tok where
 kind:Int
 text:Txt
 num:Int
 at_:Nat
inductive Out where
 |ok (l:List Tok)
 |bad (why:Int) (at_:Nat)
def Out.cons(t:Tok):Out->Out
 |ok l=>ok (t :: l)
 |bad w a=>bad w a
def Out.app(l:List Tok):Out->Out
 |ok m=>ok (l++m)
 |bad w a=>bad w a
def scanF:Nat->Nat->Txt->Out
 | 0,_,_=>.ok []
 |f+1,k,r=>if r=[] then .ok [] else match gapAt r with
  | .never=>.bad 7 k
  | .gap n=>scanF f (k+n) (r.drop n)
  | .none=>match tokAt r with
   | .bad w o=>.bad w (k+o)
   | .tok kd tx nm n=>(scanF f (k+n) (r.drop n)).cons ⟨kd,tx,nm,k⟩

def scan(k:Nat)(r:Txt):Out:=scanF r.length k r
theorem Qff{p r:Txt}(h:pre p r=true):p.length<=r.length:=by
 unfold pre Lib.hasPrefix at h;exact(List.isPrefixOf_iff_prefix.1 h).length_le
theorem Qfo{p r:Txt}(h:pre p r=true):r.take p.length=p:=by
 unfold pre Lib.hasPrefix at h;exact(List.prefix_iff_eq_take.1 (List.isPrefixOf_iff_prefix.1 h)).symm
theorem ln_le:∀r:Txt,lnLen r<=r.length
 | []=>Nat.le_refl _
 |c :: t=>by
  unfold lnLen;split
  ·simp
  ·have:=ln_le t;simp only[List.length_cons];omega
theorem ce_le:∀(r:Txt) (n:Nat),cEnd r=some n->n+2<=r.length
 | [],_,h=>by simp[cEnd]at h
 |c :: t,n,h=>by
  unfold cEnd at h;split at h
  ·rename_i hp;have:=Qff hp;cases h;simpa using this
  cases a:cEnd t with
  |none=>rw[a]at h;simp at h
  |some m=>
   rw[a]at h;have e:m+1=n:=by simpa using h
   have:=ce_le t m a;simp only[List.length_cons];omega
theorem Qdj{r:Txt}{n:Nat}(h:gapAt r = .gap n):0<n/\n<=r.length:=by
 cases r with
 |nil=>simp[gapAt]at h
 |cons c t=>
  rw[Qeo]at h;split at h
  ·cases h;simp
  split at h
  ·
   rename_i b;cases h
   refine⟨?_,ln_le _⟩;have d:=Qfo b;have:c=47:=by simpa using congrArg List.head? d
   unfold lnLen;rw[if_neg (by rw[this];decide)];omega
  split at h
  ·
   rename_i b;unfold cGap at h
   cases a:cEnd (t.drop 1) with
   |none=>rw[a]at h;cases h
   |some m=>
    rw[a]at h;cases h
    have:=ce_le _ _ a;rw[List.length_drop]at this;simp only[List.length_cons];omega
  ·cases h
theorem Qry:∀(r:Txt) (v:Txt) (n:Nat),txScan r = .ok v n->0<n/\n<=r.length
 | [],_,_,h=>by simp[txScan]at h
 | [c],v,n,h=>by
  unfold txScan at h;split at h
  ·cases h;simp
  split at h
  ·cases h
  ·split at h<;>cases h
 |c :: d :: t,v,n,h=>by
  unfold txScan at h;split at h
  ·cases h;simp
  split at h
  ·cases h
  split at h
  ·
   cases he:esc d with
   |none=>rw[he]at h;cases h
   |some b=>
    rw[he]at h
    cases ht:txScan t with
    |ok v' n'=>
     rw[ht]at h;have:=Qry t v' n' ht;cases h
     simp only[List.length_cons];omega
    |bad o=>rw[ht]at h;cases h
    |never=>rw[ht]at h;cases h
  cases ht:txScan (d :: t) with
  |ok v' n'=>
   rw[ht]at h;have:=Qry (d :: t) v' n' ht;cases h
   simp only[List.length_cons]at this ⊢;omega
  |bad o=>rw[ht]at h;cases h
  |never=>rw[ht]at h;cases h
theorem Qrx:∀(r:Txt) (o:Nat),txScan r = .bad o->o<r.length
 | [],_,h=>by simp[txScan]at h
 | [c],o,h=>by
  unfold txScan at h;split at h
  ·cases h
  split at h
  ·cases h;simp
  split at h
  ·cases h;simp
  ·cases h
 |c :: d :: t,o,h=>by
  unfold txScan at h;split at h
  ·cases h
  split at h
  ·cases h;simp
  split at h
  ·
   cases he:esc d with
   |none=>rw[he]at h;cases h;simp
   |some b=>
    rw[he]at h
    cases ht:txScan t with
    |ok v' n'=>rw[ht]at h;cases h
    |bad o'=>
     rw[ht]at h;have:=Qrx t o' ht;cases h
     simp only[List.length_cons];omega
    |never=>rw[ht]at h;cases h
  cases ht:txScan (d :: t) with
  |ok v' n'=>rw[ht]at h;cases h
  |bad o'=>
   rw[ht]at h;have:=Qrx (d :: t) o' ht;cases h
   simp only[List.length_cons]at this ⊢;omega
  |never=>rw[ht]at h;cases h
theorem Qoy{l:List Txt}{r:Txt}{k:Nat}(hl:∀h∈l,k<=h.length)(h:l.any (fun h=>pre h r)=true):k<=r.length:=by
 obtain⟨p,b,a⟩:=List.any_eq_true.1 h;exact Nat.le_trans (hl p b) (Qff a)
theorem sg_le(r:Txt):sgLen r<=r.length:=by
 unfold sgLen;split
 ·
  rename_i h;unfold isHd at h;rw[Bool.and_eq_true]at h;exact Qoy (l:=hds) (by decide) h.1
 split
 ·rename_i h;exact Qoy (l:=twos) (by decide) h
 split
 ·
  rename_i h;obtain⟨c,_,a⟩:=List.any_eq_true.1 h;exact Qff a
 ·simp
theorem dg_pos{c:UInt8}{t:Txt}(h:isD (bv c)=true):0<dgLen (c :: t):=by
 rw[Qic];split
 ·omega
 ·simp[dcn,h]
theorem Qcw{r:Txt}{kd:Int}{tx:Txt}{nm:Int}{n:Nat}(h:tokAt r = .tok kd tx nm n):0<n/\n<=r.length:=by
 cases r with
 |nil=>simp[tokAt]at h
 |cons c t=>
  rw[Qdz]at h;split at h
  ·
   rename_i b;unfold nmRes at h;split at h
   ·cases h
   cases h
   exact⟨by rw[Qth (Qpy b)];omega,Qti _⟩
  split at h
  ·
   rename_i d;unfold dgRes at h;split at h
   ·cases h
   split at h
   ·cases h
   cases h
   exact⟨dg_pos d,dg_le _⟩
  split at h
  ·
   unfold txRes at h
   cases a:txScan t with
   |ok v m=>
    rw[a]at h;cases h
    have:=Qry t _ m a;simp only[List.length_cons];omega
   |bad o=>rw[a]at h;cases h
   |never=>rw[a]at h;cases h
  unfold sgRes at h;split at h
  ·cases h
  cases h
  exact⟨by omega,sg_le _⟩
theorem Qlx{r:Txt}{why:Int}{o:Nat}(h:tokAt r = .bad why o):why≠0/\o<=r.length:=by
 cases r with
 |nil=>simp only[tokAt,Res.bad.injEq]at h;obtain⟨rfl,rfl⟩:=h;exact⟨by decide,Nat.le_refl _⟩
 |cons c t=>
  rw[Qdz]at h;split at h
  ·
   unfold nmRes at h;split at h
   ·cases h;exact⟨by decide,Nat.zero_le _⟩
   ·cases h
  split at h
  ·
   unfold dgRes at h;split at h
   ·cases h;exact⟨by decide,dg_le _⟩
   split at h
   ·cases h;exact⟨by decide,Nat.zero_le _⟩
   ·cases h
  split at h
  ·
   unfold txRes at h
   cases a:txScan t with
   |ok v m=>rw[a]at h;cases h
   |bad o'=>
    rw[a]at h;cases h
    have:=Qrx t o' a;exact⟨by decide,by simp only[List.length_cons];omega⟩
   |never=>rw[a]at h;cases h;exact⟨by decide,Nat.zero_le _⟩
  unfold sgRes at h;split at h
  ·cases h;exact⟨by decide,Nat.zero_le _⟩
  ·cases h
theorem Qkh:∀(f:Nat) (k:Nat) (r:Txt),r.length<=f->scanF f k r=scanF r.length k r:=by
 intro f
 induction f using Nat.strongRecOn with
 |_ f ih=>
  intro k r b
  cases f with
  |zero=>
   have:r.length=0:=by omega
   rw[this]
  |succ f=>
   cases r with
   |nil=>simp[scanF]
   |cons c t=>
    simp only[List.length_cons]at b ⊢;unfold scanF;rw[if_neg (by simp),if_neg (by simp)]
    cases d:gapAt (c :: t) with
    |never=>rfl
    |gap n=>
     have:=Qdj d;simp only[List.length_cons]at this;have h:((c :: t).drop n).length=t.length+1 - n:=by rw[List.length_drop,List.length_cons]
     show scanF f (k+n) _=scanF t.length (k+n) _;rw[ih f (by omega) _ _ (by omega)];by_cases a:t.length<f+1
     ·exact(ih t.length a _ _ (by omega)).symm
     ·exact absurd b (by omega)
    |none=>
     cases g:tokAt (c :: t) with
     |bad w o=>rfl
     |tok kd tx nm n=>
      have:=Qcw g;simp only[List.length_cons]at this;have h:((c :: t).drop n).length=t.length+1 - n:=by rw[List.length_drop,List.length_cons]
      show(scanF f (k+n) _).cons _=(scanF t.length (k+n) _).cons _;rw[ih f (by omega) _ _ (by omega)];by_cases a:t.length<f+1
      ·rw[ih t.length a _ _ (by omega)]
      ·exact absurd b (by omega)
theorem Qcj(k:Nat):scan k [] = .ok []:=rfl
theorem Qcy{k:Nat}{r:Txt}(h:gapAt r = .never):scan k r = .bad 7 k:=by
 cases r with
 |nil=>simp[gapAt]at h
 |cons c t=>simp only[scan,List.length_cons,scanF];rw[if_neg (by simp),h]
theorem Qdx{k:Nat}{r:Txt}{n:Nat}(h:gapAt r = .gap n):scan k r=scan (k+n) (r.drop n):=by
 cases r with
 |nil=>simp[gapAt]at h
 |cons c t=>
  have a:=Qdj h;simp only[scan,List.length_cons,scanF];rw[if_neg (by simp),h];show scanF t.length _ _=_;rw[Qkh t.length _ _ (by rw[List.length_drop,List.length_cons];simp only[List.length_cons]at a;omega)]
theorem Qct{k:Nat}{r:Txt}{why:Int}{o:Nat}(h0:r≠[])(hg:gapAt r = .none)(h:tokAt r = .bad why o):scan k r = .bad why (k+o):=by
 cases r with
 |nil=>exact absurd rfl h0
 |cons c t=>simp only[scan,List.length_cons,scanF];rw[if_neg (by simp),hg];simp only[h]
theorem Qet{k:Nat}{r:Txt}{kd:Int}{tx:Txt}{nm:Int}{n:Nat}(hg:gapAt r = .none)(h:tokAt r = .tok kd tx nm n):
  scan k r=(scan (k+n) (r.drop n)).cons ⟨kd,tx,nm,k⟩:=by
 cases r with
 |nil=>simp[tokAt]at h
 |cons c t=>
  have a:=Qcw h;simp only[scan,List.length_cons,scanF];rw[if_neg (by simp),hg];simp only[h];rw[Qkh t.length _ _ (by rw[List.length_drop,List.length_cons];simp only[List.length_cons]at a;omega)]
theorem Qst(l:List Tok)(t:Tok)(o:Out):(o.cons t).app l=o.app (l++[t]):=by
 cases o with
 |ok m=>simp[Out.cons,Out.app]
 |bad w a=>rfl

inductive Ex where
 |mk (kind n:Int) (s:Txt) (kids:List Ex) (at_:Int)
namespace Ex
def kind:Ex->Int|mk k _ _ _ _=>k
def num:Ex->Int|mk _ n _ _ _=>n
def txt:Ex->Txt|mk _ _ s _ _=>s
def kids:Ex->List Ex|mk _ _ _ l _=>l
def at_:Ex->Int|mk _ _ _ _ a=>a

def none:Ex:=mk 0 0 [] [] 0
end Ex
structure Fld where
 name:Txt
 type:Txt
structure Ctr where
 name:Txt
 fields:List Fld
structure Typ where
 name:Txt
 sub:Txt
 ctors:List Ctr
 at_:Int
structure Dcl where
 name:Txt
 cols:List Fld
 input:Bool
 output:Bool
 at_:Int
structure Ini where
 name:Txt
 comp:Txt
 at_:Int
structure Atm where
 rel:Txt
 args:List Ex
 at_:Int
def Atm.none:Atm:=⟨[],[],0⟩
structure Lt where
 kind:Int
 atom:Atm
 op:Txt
 l:Ex
 r:Ex
 at_:Int
structure Cls where
 head:Atm
 body:List Lt
 at_:Int

inductive Pg where
 |mk (types:List Typ) (decls:List Dcl) (comps:List (Txt×List Txt×Pg×Int)) (inits:List Ini) (clauses:List Cls)
namespace Pg
def types:Pg->List Typ|mk a _ _ _ _=>a
def decls:Pg->List Dcl|mk _ a _ _ _=>a
def comps:Pg->List (Txt×List Txt×Pg×Int)|mk _ _ a _ _=>a
def inits:Pg->List Ini|mk _ _ _ a _=>a
def clauses:Pg->List Cls|mk _ _ _ _ a=>a
def none:Pg:=mk [] [] [] [] []
end Pg

inductive Rs (α : Type) where
 |bad (why at_:Int) (left:List Tok)
 |ok (a:α) (left:List Tok) (items:Nat)
abbrev Pr(α : Type):=List Tok->Nat->Rs α
def Rs.bind{α β : Type}:Rs α -> (α -> Pr β)->Rs β
 | .bad w a l,_=>.bad w a l
 | .ok x l i,f=>f x l i
def Rs.map{α β : Type}(f:α -> β):Rs α -> Rs β
 | .bad w a l=>.bad w a l
 | .ok x l i=>.ok (f x) l i
section
variable (e:Nat)

def ahd(n:Nat)(l:List Tok):Tok:=l.getD n ⟨0,[],0,e⟩
def refuse{α : Type}(why:Int):Pr α :=fun l _=>.bad why (ahd e 0 l).at_ l

def sgn(l:List Tok):Txt:=if (ahd e 0 l).kind=4 then (ahd e 0 l).text else []
def want(s:Txt):Pr Unit:=fun l i=>if sgn e l=s then .ok () (l.drop 1) i else refuse e 10 l i
def choose(ss:List Txt):Pr Txt:=fun l i=>if sgn e l∈ss then .ok (ahd e 0 l).text (l.drop 1) i else refuse e 10 l i
def nmQ:Pr Txt:=fun l i=>if (ahd e 0 l).kind=1 then .ok (ahd e 0 l).text (l.drop 1) i else refuse e 10 l i

def isW1(t:Tok):Bool:=decide (t.kind=1)&&decide (t.text≠[95]) && !t.text.contains 46
def wordQ:Pr Txt:=fun l i=>if isW1 (ahd e 0 l)=true then .ok (ahd e 0 l).text (l.drop 1) i else refuse e 10 l i
def callN(l:List Tok):Bool:=decide ((ahd e 0 l).kind=1)&&decide ((ahd e 1 l).kind=4)&&decide ((ahd e 1 l).text=[40])

def listL{α : Type}(sep:Txt)(most:Nat)(part:Pr α):Nat->List α -> Pr (List α)
 | 0,acc,l,i=>.ok acc l i
 |f+1,acc,l,i=>if acc.length=most then refuse e 3 l i else
  (part l i).bind fun x l i=>if sgn e l=sep then listL sep most part f (acc++[x]) (l.drop 1) i else .ok (acc++[x]) l i
def listP{α : Type}(sep:Txt)(most:Nat)(part:Pr α):Pr (List α):=fun l i=>listL e sep most part (l.length+1) [] l i
def encl{α : Type}(op cl:Txt)(part:Pr α):Pr (List α):=fun l i=>
 (want e op l i).bind fun _ l i=>if sgn e l=cl then .ok [] (l.drop 1) i else
  (listP e [44] 8 part l i).bind fun xs l i=>(want e cl l i).map fun _=>xs

def opE(s:Txt)(x y:Ex):Ex:=.mk 5 0 s [x,y] x.at_
def joinL(operand:Pr Ex)(signs:List Txt):Nat->Ex->Pr Ex
 | 0,x,l,i=>.ok x l i
 |f+1,x,l,i=>if sgn e l∈signs then (operand (l.drop 1) i).bind fun y l2 i=>joinL operand signs f (opE (ahd e 0 l).text x y) l2 i else .ok x l i
def joined(operand:Pr Ex)(signs:List Txt):Pr Ex:=fun l i=>(operand l i).bind fun x l i=>joinL e operand signs (l.length+1) x l i

def signed(E F:Pr Ex):Pr Ex:=fun l i=>
 (choose e [[45],[40],[36]] l i).bind fun s l2 i=>
  if s=[45] then (F l2 i).map fun x=>if (ahd e 0 l2).kind=2 then .mk 2 (- x.num) [] [] (ahd e 0 l).at_ else opE [45] (.mk 2 0 [] [] (ahd e 0 l).at_) x
  else if s=[40] then (E l2 i).bind fun x l i=>(want e [41] l i).map fun _=>x
  else (wordQ e l2 i).bind fun w l3 i=>(encl e [40] [41] E l3 i).map fun ks=>.mk 6 0 w ks (ahd e 0 l).at_
def factorB(E F:Pr Ex):Pr Ex:=fun l i=>
 if (ahd e 0 l).kind=2 then .ok (.mk 2 (ahd e 0 l).num [] [] (ahd e 0 l).at_) (l.drop 1) i
 else if (ahd e 0 l).kind=3 then .ok (.mk 3 0 (ahd e 0 l).text [] (ahd e 0 l).at_) (l.drop 1) i
 else if (ahd e 0 l).kind=1 then
  if (ahd e 0 l).text=[95] then .ok (.mk 4 0 [] [] (ahd e 0 l).at_) (l.drop 1) i
  else (wordQ e l i).map fun w=>.mk 1 0 w [] (ahd e 0 l).at_
 else signed e E F l i
def exprB(F:Pr Ex):Pr Ex:=joined e (joined e F [[42],[47],[37]]) [[43],[45]]

def exD:Nat->Pr Ex×Pr Ex
 | 0=>(refuse e 4,refuse e 4)
 |d+1=>(exprB e (exD d).2,factorB e (exD d).1 (exD d).2)
def atomP(d:Nat):Pr Atm:=fun l i=>(nmQ e l i).bind fun n l2 i=>(encl e [40] [41] (exD e d).1 l2 i).map fun zs=>⟨n,zs,(ahd e 0 l).at_⟩
def litP(d:Nat):Pr Lt:=fun l i=>
 if sgn e l=[33] then (atomP e d (l.drop 1) i).map fun a=>⟨2,a,[],.none,.none,(ahd e 0 l).at_⟩
 else if callN e l=true then (atomP e d l i).map fun a=>⟨1,a,[],.none,.none,(ahd e 0 l).at_⟩
 else ((exD e d).1 l i).bind fun x l2 i=>(choose e [[61],[33,61],[60],[60,61],[62],[62,61]] l2 i).bind fun o l3 i=>((exD e d).1 l3 i).map fun y=>⟨3,.none,o,x,y,(ahd e 0 l).at_⟩
def clauseP(d:Nat):Pr Cls:=fun l i=>
 (atomP e d l i).bind fun h l2 i=>
  if sgn e l2=[58,45] then (listP e [44] 16 (litP e d) (l2.drop 1) i).bind fun b l3 i=>(want e [46] l3 i).map fun _=>⟨h,b,(ahd e 0 l).at_⟩
  else (want e [46] l2 i).map fun _=>⟨h,[],(ahd e 0 l).at_⟩
def fieldP:Pr Fld:=fun l i=>(wordQ e l i).bind fun n l i=>(want e [58] l i).bind fun _ l i=>(nmQ e l i).map fun t=>⟨n,t⟩
def ctorP:Pr Ctr:=fun l i=>(wordQ e l i).bind fun n l i=>(encl e [123] [125] (fieldP e) l i).map fun fs=>⟨n,fs⟩

def noMost:Nat:=9223372036854775807
def typeP:Pr Typ:=fun l i=>
 (wordQ e (l.drop 1) i).bind fun n l2 i=>(choose e [[60,58],[61]] l2 i).bind fun s l3 i=>
  if s=[60,58] then (nmQ e l3 i).map fun t=>⟨n,t,[],(ahd e 0 l).at_⟩ else (listP e [124] noMost (ctorP e) l3 i).map fun cs=>⟨n,[],cs,(ahd e 0 l).at_⟩
def wIn:Txt:=[105,110,112,117,116]
def wOut:Txt:=[111,117,116,112,117,116]
def flagL:Nat->Bool->Bool->Pr (Bool×Bool)
 | 0,a,b,l,i=>.ok (a,b) l i
 |f+1,a,b,l,i=>if (ahd e 0 l).kind=1/\callN e l=false then
   (if (ahd e 0 l).text=wIn then flagL f true b (l.drop 1) i else if (ahd e 0 l).text=wOut then flagL f a true (l.drop 1) i else .ok (a,b) l i)
  else .ok (a,b) l i
def declP:Pr Dcl:=fun l i=>
 (wordQ e (l.drop 1) i).bind fun n l2 i=>(encl e [40] [41] (fieldP e) l2 i).bind fun cs l3 i=>(flagL e (l3.length+1) false false l3 i).map fun p=>⟨n,cs,p.1,p.2,(ahd e 0 l).at_⟩
def initP:Pr Ini:=fun l i=>(wordQ e (l.drop 1) i).bind fun n l2 i=>(want e [61] l2 i).bind fun _ l3 i=>(nmQ e l3 i).map fun c=>⟨n,c,(ahd e 0 l).at_⟩

def compB(B:Pr Pg):Pr (Txt×List Txt×Pg×Int):=fun l i=>
 (wordQ e (l.drop 1) i).bind fun n l2 i=>
  (if sgn e l2=[58] then listP e [44] noMost (nmQ e) (l2.drop 1) i else .ok [] l2 i).bind fun bs l3 i=>
   (want e [123] l3 i).bind fun _ l4 i=>(B l4 i).bind fun p l5 i=>(want e [125] l5 i).map fun _=>(n,bs,p,(ahd e 0 l).at_)

def itemP(d:Nat)(C:Pr (Txt×List Txt×Pg×Int))(p:Pg):Pr Pg:=fun l i=>
 if i=96 then refuse e 3 l i
 else if sgn e l=[46,116,121,112,101] then (typeP e l (i+1)).map fun x=>.mk (p.types++[x]) p.decls p.comps p.inits p.clauses
 else if sgn e l=[46,100,101,99,108] then (declP e l (i+1)).map fun x=>.mk p.types (p.decls++[x]) p.comps p.inits p.clauses
 else if sgn e l=[46,99,111,109,112] then (C l (i+1)).map fun x=>.mk p.types p.decls (p.comps++[x]) p.inits p.clauses
 else if sgn e l=[46,105,110,105,116] then (initP e l (i+1)).map fun x=>.mk p.types p.decls p.comps (p.inits++[x]) p.clauses
 else (clauseP e d l (i+1)).map fun x=>.mk p.types p.decls p.comps p.inits (p.clauses++[x])

def isEnd(top:Bool)(l:List Tok):Bool:=if top then decide ((ahd e 0 l).kind=0)&&decide ((ahd e 0 l).text=[]) else decide ((ahd e 0 l).kind=4)&&decide ((ahd e 0 l).text=[125])
def progL(top:Bool)(d:Nat)(C:Pr (Txt×List Txt×Pg×Int)):Nat->Pg->Pr Pg
 | 0,p,l,i=>.ok p l i
 |f+1,p,l,i=>if isEnd e top l=true then .ok p l i else (itemP e d C p l i).bind fun p l i=>progL top d C f p l i

def progD:Nat->Bool->Pr Pg
 | 0,top=>fun l i=>progL e top 0 (refuse e 4) (l.length+1) .none l i
 |d+1,top=>fun l i=>progL e top (d+1) (compB e (progD d false)) (l.length+1) .none l i
end

def synP(s:Txt)(toks:List Tok):Rs Pg:=progD s.length 32 true toks 0
end
end Go.Proofs.YtmfpbepifnedjaaGreat
