/- A text's tokens, as plain functions on lists of bytes; no program stands in it. -/
import Derived.Lib.Strings
import Derived.Lib.Index
import Derived.Test.YtkhndlnadhggkaaGreatChecked
import Derived.WalkKit
import Derived.WalkMore
import Derived.ScopeJumps
import Derived.Handy
import Derived.Lib.AtoiTie
import Derived.Lib.AtoiErrMem
import Derived.Lib.Builder
import Derived.Shelf.Strings.Prefix
import Derived.Test.YtkhndlnadhggkaaGreatProg
import Derived.Below
import Derived.RowKit
import Derived.Lib.AtoiAll
import Derived.ProofKit
set_option maxRecDepth 100000
set_option maxHeartbeats 32000000
namespace Go.Proofs.YtkhndlnadhggkaaGreat
abbrev Jn:Value:=.slice none 0 0
abbrev Je:Value:=.string ⟨#[]⟩
abbrev Ji(x:Int):Value:=.int .i64 x
abbrev Ja(b i:Nat):Addr:=⟨b,i,none⟩
abbrev Js(b:Nat):Option Addr:=some ⟨b,0,none⟩
theorem JE{α:Sort _}(a:α):∃x,x=a:=⟨_,rfl⟩
theorem JF{α:Sort _}(a:α):∃x,a=x:=⟨_,rfl⟩
section
def isL(n:Int):Bool:=decide (n=95) || (decide (65<=n)&&decide (n<=90)) || (decide (97<=n)&&decide (n<=122))
def isD(n:Int):Bool:=decide (48<=n)&&decide (n<=57)
def inW(n:Int):Bool:=isL n || isD n
def isB(n:Int):Bool:=decide (n=32) || decide (n=9) || decide (n=10) || decide (n=13)
abbrev Txt:=List UInt8

def bv(c:UInt8):Int:=c.toNat
theorem Qpe{n:Int}(h:isL n=true):inW n=true:=by unfold inW;rw[h];rfl
theorem inW_D{n:Int}(h:isD n=true):inW n=true:=by unfold inW;rw[h];simp

def nmLen:Txt->Nat
 | []=>0
 | [c]=>if inW (bv c) then 1 else 0
 |c :: d :: u=>if inW (bv c) then nmLen (d :: u)+1 else if c=46/\isL (bv d)=true then nmLen u+2 else 0
theorem Qsp{c:UInt8}(h:inW (bv c)=true):∀t:Txt,nmLen (c :: t)=nmLen t+1
 | []=>by simp[nmLen,h]
 |d :: u=>by simp[nmLen,h]
theorem inW46:inW (bv 46)=false:=by decide
theorem nm_dot{d:UInt8}(h:isL (bv d)=true)(u:Txt):nmLen (46 :: d :: u)=nmLen u+2:=by simp[nmLen,inW46,h]
theorem nm_stop{c:UInt8}{t:Txt}(h:inW (bv c)=false)(h2:∀d u,t=d :: u->c=46->isL (bv d)=false):nmLen (c :: t)=0:=by
 cases t with
 |nil=>simp[nmLen,h]
 |cons d u=>
  rw[nmLen,if_neg (by simp[h]),if_neg];rintro⟨b,a⟩;rw[h2 d u rfl b]at a;exact absurd a (by simp)
theorem Qsq:∀r:Txt,nmLen r<=r.length
 | []=>Nat.le_refl _
 | [c]=>by unfold nmLen;split<;>simp
 |c :: d :: u=>by
  unfold nmLen;split
  ·have:=Qsq (d :: u);simp only[List.length_cons]at this ⊢;omega
  split
  ·have:=Qsq u;simp only[List.length_cons]at this ⊢;omega
  ·simp
def wcn:Txt->Nat
 | []=>0
 |c :: t=>if inW (bv c) then wcn t+1 else 0

def wdLen:Txt->Nat
 | []=>0
 |c :: t=>if isL (bv c) then wcn t+1 else 0
theorem Qgh(c:UInt8)(t:Txt):wdLen (c :: t)=if isL (bv c) then wcn t+1 else 0:=rfl
theorem Quj:∀r:Txt,wcn r<=r.length
 | []=>Nat.le_refl _
 |c :: t=>by
  unfold wcn;split
  ·have:=Quj t;simp only[List.length_cons];omega
  ·simp
theorem wd_le(r:Txt):wdLen r<=r.length:=by
 cases r with
 |nil=>exact Nat.le_refl _
 |cons c t=>
  rw[Qgh];split
  ·have:=Quj t;simp only[List.length_cons];omega
  ·simp
def noW:Txt->Bool
 | []=>true
 |c :: _=>!inW (bv c)
theorem Qqb:∀r:Txt,noW (r.drop (wcn r))=true
 | []=>rfl
 |c :: t=>by
  unfold wcn;split
  ·exact Qqb t
  ·rename_i h;simp[noW,h]
theorem Qpz:∀r:Txt,nmLen r=wcn r+nmLen (r.drop (wcn r))
 | []=>rfl
 |c :: t=>by
  cases h:inW (bv c) with
  |true=>
   have e:wcn (c :: t)=wcn t+1:=by simp[wcn,h]
   rw[Qsp h,e,Qpz t,List.drop_succ_cons];omega
  |false=>
   have e:wcn (c :: t)=0:=by simp[wcn,h]
   rw[e,List.drop_zero];omega
theorem nm_wd{r:Txt}(h:0<wdLen r):nmLen r=wdLen r+nmLen (r.drop (wdLen r)):=by
 cases r with
 |nil=>exact absurd h (by simp[wdLen])
 |cons c t=>
  cases a:isL (bv c) with
  |false=>simp[wdLen,a]at h
  |true=>
   have e:wdLen (c :: t)=wcn t+1:=by simp[wdLen,a]
   rw[Qsp (Qpe a),e,List.drop_succ_cons,Qpz t];omega
theorem Que{r:Txt}(h:0<wdLen r):noW (r.drop (wdLen r))=true:=by
 cases r with
 |nil=>exact absurd h (by simp[wdLen])
 |cons c t=>
  cases a:isL (bv c) with
  |false=>simp[wdLen,a]at h
  |true=>
   have e:wdLen (c :: t)=wcn t+1:=by simp[wdLen,a]
   rw[e,List.drop_succ_cons];exact Qqb t
theorem nm_go{t:Txt}(h:0<wdLen t):nmLen (46 :: t)=1+wdLen t+nmLen (t.drop (wdLen t)):=by
 cases t with
 |nil=>exact absurd h (by simp[wdLen])
 |cons d u=>
  cases a:isL (bv d) with
  |false=>simp[wdLen,a]at h
  |true=>
   have e:wdLen (d :: u)=wcn u+1:=by simp[wdLen,a]
   rw[nm_dot a,e,List.drop_succ_cons,Qpz u];omega
theorem nm_end{r:Txt}(h:noW r=true)(h2:∀t,r=46 :: t->wdLen t=0):nmLen r=0:=by
 cases r with
 |nil=>rfl
 |cons c t=>
  refine nm_stop (by simpa[noW] using h) ?_;rintro d u rfl rfl;have:=h2 _ rfl
  cases a:isL (bv d) with
  |false=>rfl
  |true=>simp[wdLen,a]at this
def dcn:Txt->Nat
 | []=>0
 |c :: t=>if isD (bv c) then dcn t+1 else 0
def dgLen:Txt->Nat
 | []=>0
 |c :: t=>if c=48 then 1 else dcn (c :: t)
theorem Qhp(c:UInt8)(t:Txt):dgLen (c :: t)=if c=48 then 1 else dcn (c :: t):=rfl
theorem Qtt:∀r:Txt,dcn r<=r.length
 | []=>Nat.le_refl _
 |c :: t=>by
  unfold dcn;split
  ·have:=Qtt t;simp only[List.length_cons];omega
  ·simp
theorem dg_le(r:Txt):dgLen r<=r.length:=by
 cases r with
 |nil=>exact Nat.le_refl _
 |cons c t=>
  rw[Qhp];split
  ·simp
  ·exact Qtt _

inductive TR where
 |ok (v:Txt) (n:Nat)
 |bad (o:Nat)
 |never
def TR.pre(b:UInt8)(k:Nat):TR->TR
 |ok v n=>ok (b :: v) (n+k)
 |bad o=>bad (o+k)
 |never=>never
def esc(c:UInt8):Option UInt8:=if c=34∨c=92 then some c else if c=110 then some 10 else if c=116 then some 9 else none
def txScan:Txt->TR
 | []=>.never
 | [c]=>if c=34 then .ok [] 1 else if c=10 then .bad 0 else if c=92 then .bad 0 else .never
 |c :: d :: t=>if c=34 then .ok [] 1 else if c=10 then .bad 0 else if c=92 then (match esc d with|none=>.bad 0|some b=>(txScan t).pre b 2) else (txScan (d :: t)).pre c 1

def hds:List Txt:=[[46,100,101,99,108],[46,116,121,112,101],[46,99,111,109,112],[46,105,110,105,116]]
def twos:List Txt:=[[58,45],[60,58],[60,61],[62,61],[33,61]]
def ones:Txt:=[40,41,123,125,44,46,58,124,33,61,60,62,43,45,42,47,37,36]
def pre(p r:Txt):Bool:=Lib.hasPrefix r p
def isHd(r:Txt):Bool:=hds.any (fun h=>pre h r)&&noW (r.drop 5)
def sgLen(r:Txt):Nat:=if isHd r then 5 else if twos.any (fun h=>pre h r) then 2 else if ones.any (fun c=>pre [c] r) then 1 else 0

def vl:Nat->Txt->Nat
 |acc,[]=>acc
 |acc,c :: l=>vl (acc*10+(c.toNat - 48)) l
inductive Res where
 |tok (kind:Int) (text:Txt) (num:Int) (len:Nat)
 |bad (why:Int) (off:Nat)
def nmRes(r:Txt):Res:=if 64<nmLen r then .bad 2 0 else .tok 1 (r.take (nmLen r)) 0 (nmLen r)
def dgRes(r:Txt):Res:=if noW (r.drop (dgLen r))=false then .bad 7 (dgLen r) else if 9223372036854775807<vl 0 (r.take (dgLen r)) then .bad 8 0 else .tok 2 [] (vl 0 (r.take (dgLen r))) (dgLen r)
def txRes(t:Txt):Res:=match txScan t with | .ok v n=>.tok 3 v 0 (n+1) | .bad o=>.bad 7 (o+1) | .never=>.bad 7 0
def sgRes(r:Txt):Res:=if sgLen r=0 then .bad 7 0 else .tok 4 (r.take (sgLen r)) 0 (sgLen r)

def tokAt:Txt->Res
 | []=>.bad 7 0
 |c :: t=>if isL (bv c) then nmRes (c :: t) else if isD (bv c) then dgRes (c :: t) else if c=34 then txRes t else sgRes (c :: t)
inductive G where
 |none
 |gap (n:Nat)
 |never

def lnLen:Txt->Nat
 | []=>0
 |c :: t=>if c=10 then 0 else lnLen t+1
def cEnd:Txt->Option Nat
 | []=>none
 |c :: t=>if pre [42,47] (c :: t) then some 0 else (cEnd t).map (· + 1)
def cGap(t:Txt):G:=match cEnd t with|some n=>.gap (n+4)|none=>.never

def gapAt:Txt->G
 | []=>.none
 |c :: t=>if isB (bv c) then .gap 1 else if pre [47,47] (c :: t) then .gap (lnLen (c :: t)) else if pre [47,42] (c :: t) then cGap (t.drop 1) else .none
theorem Qeh(c:UInt8)(t:Txt):gapAt (c :: t)=if isB (bv c) then .gap 1 else if pre [47,47] (c :: t) then .gap (lnLen (c :: t)) else if pre [47,42] (c :: t) then cGap (t.drop 1) else .none:=rfl
theorem Qds(c:UInt8)(t:Txt):tokAt (c :: t)=if isL (bv c) then nmRes (c :: t) else if isD (bv c) then dgRes (c :: t) else if c=34 then txRes t else sgRes (c :: t):=rfl
structure Tok where
 kind:Int
 text:Txt
 num:Int
 at_:Nat
inductive Out where
 |ok (l:List Tok)
 |bad (why:Int) (at_:Nat)
def Out.cons(t:Tok):Out->Out
 |ok l=>ok (t :: l)
 |bad w a=>bad w a
def Out.app(l:List Tok):Out->Out
 |ok m=>ok (l++m)
 |bad w a=>bad w a
def scanF:Nat->Nat->Txt->Out
 | 0,_,_=>.ok []
 |f+1,k,r=>if r=[] then .ok [] else match gapAt r with
  | .never=>.bad 7 k
  | .gap n=>scanF f (k+n) (r.drop n)
  | .none=>match tokAt r with
   | .bad w o=>.bad w (k+o)
   | .tok kd tx nm n=>(scanF f (k+n) (r.drop n)).cons ⟨kd,tx,nm,k⟩

def scan(k:Nat)(r:Txt):Out:=scanF r.length k r
theorem Qev{p r:Txt}(h:pre p r=true):p.length<=r.length:=by
 unfold pre Lib.hasPrefix at h;exact(List.isPrefixOf_iff_prefix.1 h).length_le
theorem Qfd{p r:Txt}(h:pre p r=true):r.take p.length=p:=by
 unfold pre Lib.hasPrefix at h;exact(List.prefix_iff_eq_take.1 (List.isPrefixOf_iff_prefix.1 h)).symm
theorem ln_le:∀r:Txt,lnLen r<=r.length
 | []=>Nat.le_refl _
 |c :: t=>by
  unfold lnLen;split
  ·simp
  ·have:=ln_le t;simp only[List.length_cons];omega
theorem ce_le:∀(r:Txt) (n:Nat),cEnd r=some n->n+2<=r.length
 | [],_,h=>by simp[cEnd]at h
 |c :: t,n,h=>by
  unfold cEnd at h;split at h
  ·rename_i hp;have:=Qev hp;cases h;simpa using this
  cases a:cEnd t with
  |none=>rw[a]at h;simp at h
  |some m=>
   rw[a]at h;have e:m+1=n:=by simpa using h
   have:=ce_le t m a;simp only[List.length_cons];omega
theorem Qdd{r:Txt}{n:Nat}(h:gapAt r = .gap n):0<n/\n<=r.length:=by
 cases r with
 |nil=>simp[gapAt]at h
 |cons c t=>
  rw[Qeh]at h;split at h
  ·cases h;simp
  split at h
  ·
   rename_i b;cases h
   refine⟨?_,ln_le _⟩;have d:=Qfd b;have:c=47:=by simpa using congrArg List.head? d
   unfold lnLen;rw[if_neg (by rw[this];decide)];omega
  split at h
  ·
   rename_i b;unfold cGap at h
   cases a:cEnd (t.drop 1) with
   |none=>rw[a]at h;cases h
   |some m=>
    rw[a]at h;cases h
    have:=ce_le _ _ a;rw[List.length_drop]at this;simp only[List.length_cons];omega
  ·cases h
theorem Qrc:∀(r:Txt) (v:Txt) (n:Nat),txScan r = .ok v n->0<n/\n<=r.length
 | [],_,_,h=>by simp[txScan]at h
 | [c],v,n,h=>by
  unfold txScan at h;split at h
  ·cases h;simp
  split at h
  ·cases h
  ·split at h<;>cases h
 |c :: d :: t,v,n,h=>by
  unfold txScan at h;split at h
  ·cases h;simp
  split at h
  ·cases h
  split at h
  ·
   cases he:esc d with
   |none=>rw[he]at h;cases h
   |some b=>
    rw[he]at h
    cases ht:txScan t with
    |ok v' n'=>
     rw[ht]at h;have:=Qrc t v' n' ht;cases h
     simp only[List.length_cons];omega
    |bad o=>rw[ht]at h;cases h
    |never=>rw[ht]at h;cases h
  cases ht:txScan (d :: t) with
  |ok v' n'=>
   rw[ht]at h;have:=Qrc (d :: t) v' n' ht;cases h
   simp only[List.length_cons]at this ⊢;omega
  |bad o=>rw[ht]at h;cases h
  |never=>rw[ht]at h;cases h
theorem Qrb:∀(r:Txt) (o:Nat),txScan r = .bad o->o<r.length
 | [],_,h=>by simp[txScan]at h
 | [c],o,h=>by
  unfold txScan at h;split at h
  ·cases h
  split at h
  ·cases h;simp
  split at h
  ·cases h;simp
  ·cases h
 |c :: d :: t,o,h=>by
  unfold txScan at h;split at h
  ·cases h
  split at h
  ·cases h;simp
  split at h
  ·
   cases he:esc d with
   |none=>rw[he]at h;cases h;simp
   |some b=>
    rw[he]at h
    cases ht:txScan t with
    |ok v' n'=>rw[ht]at h;cases h
    |bad o'=>
     rw[ht]at h;have:=Qrb t o' ht;cases h
     simp only[List.length_cons];omega
    |never=>rw[ht]at h;cases h
  cases ht:txScan (d :: t) with
  |ok v' n'=>rw[ht]at h;cases h
  |bad o'=>
   rw[ht]at h;have:=Qrb (d :: t) o' ht;cases h
   simp only[List.length_cons]at this ⊢;omega
  |never=>rw[ht]at h;cases h
theorem Qoi{l:List Txt}{r:Txt}{k:Nat}(hl:∀h∈l,k<=h.length)(h:l.any (fun h=>pre h r)=true):k<=r.length:=by
 obtain⟨p,b,a⟩:=List.any_eq_true.1 h;exact Nat.le_trans (hl p b) (Qev a)
theorem sg_le(r:Txt):sgLen r<=r.length:=by
 unfold sgLen;split
 ·
  rename_i h;unfold isHd at h;rw[Bool.and_eq_true]at h;exact Qoi (l:=hds) (by decide) h.1
 split
 ·rename_i h;exact Qoi (l:=twos) (by decide) h
 split
 ·
  rename_i h;obtain⟨c,_,a⟩:=List.any_eq_true.1 h;exact Qev a
 ·simp
theorem dg_pos{c:UInt8}{t:Txt}(h:isD (bv c)=true):0<dgLen (c :: t):=by
 rw[Qhp];split
 ·omega
 ·simp[dcn,h]
theorem Qcu{r:Txt}{kd:Int}{tx:Txt}{nm:Int}{n:Nat}(h:tokAt r = .tok kd tx nm n):0<n/\n<=r.length:=by
 cases r with
 |nil=>simp[tokAt]at h
 |cons c t=>
  rw[Qds]at h;split at h
  ·
   rename_i b;unfold nmRes at h;split at h
   ·cases h
   cases h
   exact⟨by rw[Qsp (Qpe b)];omega,Qsq _⟩
  split at h
  ·
   rename_i d;unfold dgRes at h;split at h
   ·cases h
   split at h
   ·cases h
   cases h
   exact⟨dg_pos d,dg_le _⟩
  split at h
  ·
   unfold txRes at h
   cases a:txScan t with
   |ok v m=>
    rw[a]at h;cases h
    have:=Qrc t _ m a;simp only[List.length_cons];omega
   |bad o=>rw[a]at h;cases h
   |never=>rw[a]at h;cases h
  unfold sgRes at h;split at h
  ·cases h
  cases h
  exact⟨by omega,sg_le _⟩
theorem Qlg{r:Txt}{why:Int}{o:Nat}(h:tokAt r = .bad why o):why≠0/\o<=r.length:=by
 cases r with
 |nil=>simp only[tokAt,Res.bad.injEq]at h;obtain⟨rfl,rfl⟩:=h;exact⟨by decide,Nat.le_refl _⟩
 |cons c t=>
  rw[Qds]at h;split at h
  ·
   unfold nmRes at h;split at h
   ·cases h;exact⟨by decide,Nat.zero_le _⟩
   ·cases h
  split at h
  ·
   unfold dgRes at h;split at h
   ·cases h;exact⟨by decide,dg_le _⟩
   split at h
   ·cases h;exact⟨by decide,Nat.zero_le _⟩
   ·cases h
  split at h
  ·
   unfold txRes at h
   cases a:txScan t with
   |ok v m=>rw[a]at h;cases h
   |bad o'=>
    rw[a]at h;cases h
    have:=Qrb t o' a;exact⟨by decide,by simp only[List.length_cons];omega⟩
   |never=>rw[a]at h;cases h;exact⟨by decide,Nat.zero_le _⟩
  unfold sgRes at h;split at h
  ·cases h;exact⟨by decide,Nat.zero_le _⟩
  ·cases h
theorem Qjp:∀(f:Nat) (k:Nat) (r:Txt),r.length<=f->scanF f k r=scanF r.length k r:=by
 intro f
 induction f using Nat.strongRecOn with
 |_ f ih=>
  intro k r b
  cases f with
  |zero=>
   have:r.length=0:=by omega
   rw[this]
  |succ f=>
   cases r with
   |nil=>simp[scanF]
   |cons c t=>
    simp only[List.length_cons]at b ⊢;unfold scanF;rw[if_neg (by simp),if_neg (by simp)]
    cases d:gapAt (c :: t) with
    |never=>rfl
    |gap n=>
     have:=Qdd d;simp only[List.length_cons]at this;have g:((c :: t).drop n).length=t.length+1 - n:=by rw[List.length_drop,List.length_cons]
     show scanF f (k+n) _=scanF t.length (k+n) _;rw[ih f (by omega) _ _ (by omega)];by_cases a:t.length<f+1
     ·exact(ih t.length a _ _ (by omega)).symm
     ·exact absurd b (by omega)
    |none=>
     cases e:tokAt (c :: t) with
     |bad w o=>rfl
     |tok kd tx nm n=>
      have:=Qcu e;simp only[List.length_cons]at this;have g:((c :: t).drop n).length=t.length+1 - n:=by rw[List.length_drop,List.length_cons]
      show(scanF f (k+n) _).cons _=(scanF t.length (k+n) _).cons _;rw[ih f (by omega) _ _ (by omega)];by_cases a:t.length<f+1
      ·rw[ih t.length a _ _ (by omega)]
      ·exact absurd b (by omega)
theorem Qck(k:Nat):scan k [] = .ok []:=rfl
theorem Qcw{k:Nat}{r:Txt}(h:gapAt r = .never):scan k r = .bad 7 k:=by
 cases r with
 |nil=>simp[gapAt]at h
 |cons c t=>simp only[scan,List.length_cons,scanF];rw[if_neg (by simp),h]
theorem Qdq{k:Nat}{r:Txt}{n:Nat}(h:gapAt r = .gap n):scan k r=scan (k+n) (r.drop n):=by
 cases r with
 |nil=>simp[gapAt]at h
 |cons c t=>
  have a:=Qdd h;simp only[scan,List.length_cons,scanF];rw[if_neg (by simp),h];show scanF t.length _ _=_;rw[Qjp t.length _ _ (by rw[List.length_drop,List.length_cons];simp only[List.length_cons]at a;omega)]
theorem Qcr{k:Nat}{r:Txt}{why:Int}{o:Nat}(h0:r≠[])(hg:gapAt r = .none)(h:tokAt r = .bad why o):scan k r = .bad why (k+o):=by
 cases r with
 |nil=>exact absurd rfl h0
 |cons c t=>simp only[scan,List.length_cons,scanF];rw[if_neg (by simp),hg];simp only[h]
theorem Qel{k:Nat}{r:Txt}{kd:Int}{tx:Txt}{nm:Int}{n:Nat}(hg:gapAt r = .none)(h:tokAt r = .tok kd tx nm n):
  scan k r=(scan (k+n) (r.drop n)).cons ⟨kd,tx,nm,k⟩:=by
 cases r with
 |nil=>simp[tokAt]at h
 |cons c t=>
  have a:=Qcu h;simp only[scan,List.length_cons,scanF];rw[if_neg (by simp),hg];simp only[h];rw[Qjp t.length _ _ (by rw[List.length_drop,List.length_cons];simp only[List.length_cons]at a;omega)]
theorem Qsa(l:List Tok)(t:Tok)(o:Out):(o.cons t).app l=o.app (l++[t]):=by
 cases o with
 |ok m=>simp[Out.cons,Out.app]
 |bad w a=>rfl
end
section
open Go.RowKit
theorem hide{p:Prop}(h:p):Hid p:=h
theorem Qa{p:Prop}(h:Hid p):p:=h.out
theorem Ya{p q:Prop}(a:p)(b:q):p/\q:=⟨a,b⟩
theorem Qcz{a b:Bool}(h:a=b):Ending.returned (.bool a) = .returned (.bool b):=by rw[h]
theorem Qci{a b:Int}(h:a=b):Ending.returned (Ji a) = .returned (Ji b):=by rw[h]
theorem Qce(n:Int)(w:World):Calls Tryz.prog 89 #[.int .u8 n] w fun e w'=>e = .returned (.bool (isL n))/\w'=w:=by
 go_enter Tryz.func89,Tryz.ntmps89
 go_wp2
 all_goals
  go_ret;refine⟨Qcz ?_,rfl⟩;unfold isL;rw[Bool.eq_iff_iff];simp<;>omega
theorem Qbn(n:Int)(w:World):Calls Tryz.prog 52 #[.int .u8 n] w fun e w'=>e = .returned (.bool (isD n))/\w'=w:=by
 go_enter Tryz.func52,Tryz.ntmps52
 go_wp2
 all_goals
  go_ret;refine⟨Qcz ?_,rfl⟩;unfold isD;rw[Bool.eq_iff_iff];simp<;>omega
theorem Qar(s:ByteArray)(k:Nat)(h:k<s.size):s.data.toList.drop k=s[k] :: s.data.toList.drop (k+1):=by
 rw[List.drop_eq_getElem_cons (by simpa using h)];rfl
theorem Qby(s:ByteArray)(k:Nat)(h:s.size<=k):s.data.toList.drop k=[]:=
 List.drop_eq_nil_of_le (by rw[Array.length_toList];exact h)
theorem Qbp(s:ByteArray)(k:Nat):(s.data.toList.drop k).length=s.size - k:=by rw[List.length_drop,Array.length_toList];rfl
theorem Qfi{c:UInt8}{k:Nat}(hk:k<256):bv c=k↔c=UInt8.ofNat k:=by
 unfold bv;constructor
 ·
  intro h;exact UInt8.toNat_inj.1 (by rw[UInt8.toNat_ofNat',Nat.mod_eq_of_lt (by omega)];omega)
 rintro rfl;rw[UInt8.toNat_ofNat',Nat.mod_eq_of_lt (by omega)]
def intOf:Value->Int | .int _ q=>q|_=>0
theorem Qor{s:ByteArray}{k:Nat}(h:k<s.size)(h0:bv s[k]=48):dgLen (s.data.toList.drop k)=1:=by
 have e:s[k]=48:=(Qfi (k:=48) (by omega)).1 h0;rw[Qar s k h,Qhp,if_pos e]
theorem Qln{s:ByteArray}{k:Nat}(h:k<s.size)(h0:¬bv s[k]=48):dgLen (s.data.toList.drop k)=dcn (s.data.toList.drop k):=by
 rw[Qar s k h,Qhp,if_neg];intro e;exact h0 (by rw[e];rfl)
def escI(n:Int):Int×Bool:=if n=34∨n=92 then (n,true) else if n=110 then (10,true) else if n=116 then (9,true) else (0,false)
def escR:Txt->Int×Bool
 | []=>(0,false)
 |c :: _=>escI (bv c)
theorem at_pre(s:ByteArray)(k:Nat)(t:ByteArray)(h:k+t.size<=s.size):((s.extract k (k+t.size)).toList==t.toList)=pre t.data.toList (s.data.toList.drop k):=by
 rw[Lib.toList_data,Lib.toList_data];unfold pre;rw[<- Lib.hasPrefix_of_take];have e:(s.extract k (k+t.size)).data.toList=(s.data.toList.drop k).take t.data.toList.length:=by
  have:(s.extract k (k+t.size)).data=s.data.extract k (k+t.size):=by simp
  rw[this,Array.toList_extract];simp[List.take_drop]
 rw[e];have a:decide (t.data.toList.length<=(s.data.toList.drop k).length)=true:=by
  rw[decide_eq_true_eq,Qbp,Array.length_toList];have:t.size=t.data.size:=rfl;omega
 rw[a,Bool.true_and]
theorem Qqi{s:ByteArray}{k:Nat}{t:ByteArray}(h:¬k+t.size<=s.size)(hk:k<=s.size):pre t.data.toList (s.data.toList.drop k)=false:=by
 cases a:pre t.data.toList (s.data.toList.drop k) with
 |false=>rfl
 |true=>
  have:=Qev a;rw[Qbp,Array.length_toList]at this;have:t.size=t.data.size:=rfl;omega
theorem at_any(s:ByteArray)(k:Nat)(t:ByteArray)(hk:k<=s.size)(hs:s.size<=140737488355328)(ht:t.size<=1000)(w:World):
  Calls Tryz.prog 87 #[.string s,Ji (k:Int),.string t] w fun e w'=>e = .returned (.bool (pre t.data.toList (s.data.toList.drop k)))/\w'=w:=by
 by_cases h:k+t.size<=s.size
 ·
  have H:=hide (at_pre s k t h);have a:((k:Int)+(t.size:Int)).toNat=k+t.size:=by omega
  have c:∀w:World,(Instr.slice 9 (.string s) (some (Ji (k:Int))) (some (Ji ((k:Int)+(t.size:Int)))) none).run Tryz.prog w = .ok (.string (s.extract k (k+t.size))) w:=by
   intro w;have:=run_slice_string (P:=Tryz.prog) w 9 s .i64 .i64 (k:Int) ((k:Int)+(t.size:Int)) Tryz.underlying9 (by omega) (by omega) (by omega);rw[a]at this;exact this
  obtain⟨u,b⟩:=JF (s.extract k (k+t.size));rw[b]at c H;clear a b;go_enter Tryz.func87,Tryz.ntmps87
  go_wp2
  go_ret;exact⟨Qcz (Qa H),rfl⟩
 have H:=hide (Qqi h hk);go_enter Tryz.func87,Tryz.ntmps87
 go_wp2
 go_ret;exact⟨Qcz (Qa H).symm,rfl⟩
def wdAt(s:ByteArray)(i n:Nat):Nat:=if n=0 then wdLen (s.data.toList.drop i) else n+wcn (s.data.toList.drop (i+n))
theorem Qjw{s:ByteArray}{i n:Nat}(h:i+n<s.size)(hc:isL (bv s[i+n])=true∨(0<n/\isD (bv s[i+n])=true)):wdAt s i n=wdAt s i (n+1):=by
 unfold wdAt;rw[if_neg (by omega:¬n+1=0)];by_cases a:n=0
 ·
  subst a;rw[if_pos rfl];rcases hc with hc|hc
  ·
   simp only[Nat.add_zero,Nat.zero_add]at hc ⊢;rw[Qar s i (by omega),Qgh,if_pos hc];omega
  ·exact absurd hc.1 (by omega)
 rw[if_neg a,Qar s (i+n) h];have:inW (bv s[i+n])=true:=by
  rcases hc with hc|hc
  ·exact Qpe hc
  ·exact inW_D hc.2
 have e:wcn (s[i+n] :: s.data.toList.drop (i+n+1))=wcn (s.data.toList.drop (i+n+1))+1:=by simp[wcn,this]
 have b:i+(n+1)=i+n+1:=rfl;rw[e,b];omega
theorem Qii{s:ByteArray}{i n:Nat}(h:∀hlt:i+n<s.size,isL (bv s[i+n])=false/\(0<n->isD (bv s[i+n])=false)):wdAt s i n=n:=by
 unfold wdAt;by_cases hlt:i+n<s.size
 ·
  obtain⟨b,c⟩:=h hlt;by_cases a:n=0
  ·
   subst a;rw[if_pos rfl];simp only[Nat.add_zero]at b hlt;rw[Qar s i hlt,Qgh,if_neg (by simp[b])]
  rw[if_neg a,Qar s (i+n) hlt];have:inW (bv s[i+n])=false:=by unfold inW;rw[b,c (by omega)];rfl
  simp[wcn,this]
 by_cases a:n=0
 ·
  subst a;rw[if_pos rfl,Qby s i (by omega)];rfl
 ·rw[if_neg a,Qby s (i+n) (by omega)];rfl
theorem Qjo(s:ByteArray)(k:Nat)(hk:k<=s.size)(hs:s.size<=140737488355328)(w:World):
  Calls Tryz.prog 88 #[.string s,Ji (k:Int)] w fun e w'=>e = .returned (Ji (wdLen (s.data.toList.drop k):Int))/\w'=w:=by
 go_enter Tryz.func88,Tryz.ntmps88
 go_wp2
 go_loop [5] (fun i=>∃m:Nat,k+m<=s.size/\i = Ji (m:Int)/\Hid (wdLen (s.data.toList.drop k)=wdAt s k m)) (fun i=>s.size - (intOf i).toNat)
 case atStart=>exact⟨0,by omega,rfl,hide rfl⟩
 obtain⟨m,g,rfl,b⟩:=hrel;by_cases d:k+m<s.size
 rotate_left
 ·
  go_wp2
  go_ret;exact⟨Qci (by have:=Qa b;have:=Qii (s:=s) (i:=k) (n:=m) (fun h=>absurd h d);omega),rfl⟩
 cases a:isL (s[k+m].toNat:Int) with
 |true=>
  go_wp2_with (go_at_call 89;refine(Qce _ _).mono ?_;rintro e w'⟨rfl,rfl⟩;rw[a])
  go_round
  case rel=>exact⟨m+1,by omega,by go_num,hide ((Qa b).trans (Qjw d (.inl a)))⟩
  case measure=>simp[intOf];omega
 |false=>
  by_cases f:0<m
  ·
   cases c:isD (s[k+m].toNat:Int) with
   |true=>
    go_wp2_with (first
     |(go_at_call 89;refine(Qce _ _).mono ?_;rintro e w'⟨rfl,rfl⟩;rw[a])
     |(go_at_call 52;refine(Qbn _ _).mono ?_;rintro e w'⟨rfl,rfl⟩;rw[c]))
    go_round
    case rel=>exact⟨m+1,by omega,by go_num,hide ((Qa b).trans (Qjw d (.inr ⟨f,c⟩)))⟩
    case measure=>simp[intOf];omega
   |false=>
    go_wp2_with (first
     |(go_at_call 89;refine(Qce _ _).mono ?_;rintro e w'⟨rfl,rfl⟩;rw[a])
     |(go_at_call 52;refine(Qbn _ _).mono ?_;rintro e w'⟨rfl,rfl⟩;rw[c]))
    go_ret;exact⟨Qci (by have:=Qa b;have:=Qii (s:=s) (i:=k) (n:=m) (fun _=>⟨a,fun _=>c⟩);omega),rfl⟩
  go_wp2_with (go_at_call 89;refine(Qce _ _).mono ?_;rintro e w'⟨rfl,rfl⟩;rw[a]);go_ret;exact⟨Qci (by have:=Qa b;have:=Qii (s:=s) (i:=k) (n:=m) (fun _=>⟨a,fun h=>absurd h f⟩);omega),rfl⟩
end
end Go.Proofs.YtkhndlnadhggkaaGreat
namespace Go.Proofs.YtkhndlnadhggkaaGreat
section
open Go.RowKit
theorem Qdy(s:ByteArray)(a:Int)(k:Nat)(t:ByteArray)(b:Bool)(ha:a=(k:Int))(hb:pre t.data.toList (s.data.toList.drop k)=b)(hk:k<=s.size)(hs:s.size<=140737488355328)(ht:t.size<=1000)(w:World):
    Calls Tryz.prog 87 #[.string s,Ji a,.string t] w fun e w'=>e = .returned (.bool b)/\w'=w:=by
  subst ha hb;exact at_any s k t hk hs ht w
theorem Qek(s:ByteArray)(a:Int)(k n:Nat)(ha:a=(k:Int))(hn:wdLen (s.data.toList.drop k)=n)(hk:k<=s.size)(hs:s.size<=140737488355328)(w:World):
    Calls Tryz.prog 88 #[.string s,Ji a] w fun e w'=>e = .returned (Ji (n:Int))/\w'=w:=by
  subst ha hn;exact Qjo s k hk hs w
theorem pre1{c:UInt8}{r:Txt}:pre [c] r=true ↔ ∃t,r=c :: t:=by
  unfold pre Lib.hasPrefix
  cases r with
  |nil=>simp
  |cons d u=>
    simp only[List.isPrefixOf,Bool.and_true,beq_iff_eq];constructor
    ·rintro rfl;exact⟨u,rfl⟩
    ·rintro⟨t,h⟩;injection h with h _;exact h.symm
theorem Qla{s:ByteArray}{k:Nat}{c:UInt8}(h:pre [c] (s.data.toList.drop k)=true):∃hk:k<s.size,s[k]=c:=by
  obtain⟨t,a⟩:=pre1.1 h;by_cases hk:k<s.size
  · rw[Qar s k hk]at a
    exact⟨hk,by injection a⟩
  · rw[Qby s k (by omega)]at a
    cases a
def rnm(r:Txt):Nat:=if wdLen r=0 then 0 else nmLen r
def rnmAt(s:ByteArray)(k n:Nat):Nat:=if n=0 then 0 else n+nmLen (s.data.toList.drop (k+n))
theorem Qqs(s:ByteArray)(k:Nat):rnm (s.data.toList.drop k)=rnmAt s k (wdLen (s.data.toList.drop k)):=by
  unfold rnm rnmAt;split
  ·rfl
  ·rw[nm_wd (by omega),List.drop_drop]
theorem Qqa{s:ByteArray}{k:Nat}(h:¬wdLen (s.data.toList.drop k)=0):noW (s.data.toList.drop (k+wdLen (s.data.toList.drop k)))=true:=by
  rw[<- List.drop_drop];exact Que (by omega)
theorem rnm_go{s:ByteArray}{k n:Nat}(h0:0<n)(hp:pre [46] (s.data.toList.drop (k+n))=true)(hw:0<wdLen (s.data.toList.drop (k+n+1))):
    rnmAt s k n=rnmAt s k (n+(1+wdLen (s.data.toList.drop (k+n+1))))/\noW (s.data.toList.drop (k+(n+(1+wdLen (s.data.toList.drop (k+n+1))))))=true:=by
  obtain⟨a,c⟩:=Qla hp;have e:s.data.toList.drop (k+n)=46 :: s.data.toList.drop (k+n+1):=by rw[Qar s _ a,c]
  have b:k+(n+(1+wdLen (s.data.toList.drop (k+n+1))))=(k+n+1)+wdLen (s.data.toList.drop (k+n+1)):=by omega
  unfold rnmAt;rw[if_neg (by omega),if_neg (by omega),e,nm_go hw,b,<- List.drop_drop (i:=wdLen (s.data.toList.drop (k+n+1))) (j:=k+n+1)];exact⟨by omega,Que hw⟩
theorem Qqr{s:ByteArray}{k n:Nat}(hn:noW (s.data.toList.drop (k+n))=true)(h:pre [46] (s.data.toList.drop (k+n))=true->wdLen (s.data.toList.drop (k+n+1))=0):rnmAt s k n=n:=by
  unfold rnmAt;split
  ·omega
  · rw[nm_end hn];· omega
    intro t a;have b:pre [46] (s.data.toList.drop (k+n))=true:=pre1.2 ⟨t,a⟩;obtain⟨c,_⟩:=Qla b;have:=h b;rw[Qar s _ c]at a;injection a with _ h2
    rw[<- h2];exact this
theorem Qro(s:ByteArray)(k:Nat)(hk:k<=s.size):k+wdLen (s.data.toList.drop k)<=s.size:=by
  have:=wd_le (s.data.toList.drop k);rw[Qbp]at this;omega
def RNm(s:ByteArray)(k n:Nat):Prop:=k+n<=s.size/\rnm (s.data.toList.drop k)=rnmAt s k n/\(n=0∨noW (s.data.toList.drop (k+n))=true)
theorem Qqq(s:ByteArray)(k:Nat)(hk:k<=s.size)(hs:s.size<=140737488355328)(w:World):
    Calls Tryz.prog 51 #[.string s,Ji (k:Int)] w fun e w'=>e = .returned (Ji (rnm (s.data.toList.drop k):Int))/\w'=w:=by
  obtain⟨j,b⟩:=JF (wdLen (s.data.toList.drop k));have t:Hid (RNm s k j):=by
    refine hide ⟨by rw[<- b];exact Qro s k hk,by rw[<- b];exact Qqs s k,?_⟩;by_cases h:j=0
    ·exact .inl h
    ·exact .inr (by rw[<- b];exact Qqa (by rw[b];exact h))
  have r:=hide b;clear b;go_enter Tryz.func51,Tryz.ntmps51;go_wp2_with (go_at_call 88;refine(Qek s _ k j rfl (Qa r) hk hs _).mono ?_;rintro e w'⟨rfl,rfl⟩)
  go_loop [5] (fun i=>∃n:Nat,i = Ji (n:Int)/\Hid (RNm s k n)) (fun i=>s.size - (intOf i).toNat)
  case atStart=>exact⟨j,rfl,t⟩
  obtain⟨n,rfl,d⟩:=hrel;have y:=(Qa d).1;by_cases v:0<n
  · cases g:pre [46] (s.data.toList.drop (k+n)) with
    |true=>
      obtain⟨z,x⟩:=Qla g;clear x;obtain⟨m,p⟩:=JF (wdLen (s.data.toList.drop (k+n+1)));have f:=hide p;have q:=Qro s (k+n+1) (by omega);rw[p]at q;have c:=hide g;clear p g;by_cases hw:0<m
      · go_wp2_with (first
          |(go_at_call 87;refine(Qdy s _ (k+n) ⟨#[46]⟩ true (by omega) (Qa c) (by omega) hs (by decide) _).mono ?_;rintro e w'⟨rfl,rfl⟩)
          |(go_at_call 88;refine(Qek s _ (k+n+1) m (by omega) (Qa f) (by omega) hs _).mono ?_;rintro e w'⟨rfl,rfl⟩))
        go_round
        case rel=>
          have a:=Qa d;have o:=rnm_go v (Qa c) (by rw[Qa f];exact hw);rw[Qa f]at o;exact⟨n+(1+m),by go_num,hide ⟨by omega,a.2.1.trans o.1,.inr o.2⟩⟩
        case measure=>simp[intOf];omega
      · go_wp2_with (first
          |(go_at_call 87;refine(Qdy s _ (k+n) ⟨#[46]⟩ true (by omega) (Qa c) (by omega) hs (by decide) _).mono ?_;rintro e w'⟨rfl,rfl⟩)
          |(go_at_call 88;refine(Qek s _ (k+n+1) m (by omega) (Qa f) (by omega) hs _).mono ?_;rintro e w'⟨rfl,rfl⟩))
        go_ret;have a:=Qa d;have l:noW (s.data.toList.drop (k+n))=true:=by
          rcases a.2.2 with h|h
          ·omega
          ·exact h
        exact⟨Qci (by rw[a.2.1,Qqr l (fun _=>by rw[Qa f];omega)]),rfl⟩
    |false=>
      have c:=hide g;clear g;go_wp2_with (go_at_call 87;refine(Qdy s _ (k+n) ⟨#[46]⟩ false (by omega) (Qa c) (by omega) hs (by decide) _).mono ?_;rintro e w'⟨rfl,rfl⟩);go_ret;have a:=Qa d;have l:noW (s.data.toList.drop (k+n))=true:=by
        rcases a.2.2 with h|h
        ·omega
        ·exact h
      exact⟨Qci (by rw[a.2.1,Qqr l (fun h=>by rw[Qa c]at h;cases h)]),rfl⟩
  · go_wp2
    go_ret;have a:=Qa d;have u:n=0:=by omega
    subst u;exact⟨Qci (by rw[a.2.1];rfl),rfl⟩
def nameP(l:Txt):Bool:=decide (l≠[])&&decide (l.length<=64)&&decide (wdLen l≠0)&&decide (nmLen l=l.length)
theorem Qcs(s:ByteArray):s.size=s.data.toList.length:=by rw[Array.length_toList];rfl
theorem Qfl{s:ByteArray}(h:0<s.size):s.data.toList=s[0] :: s.data.toList.drop 1:=by
  have:=Qar s 0 h;rwa [List.drop_zero]at this
theorem Qlp{s:ByteArray}(h:¬0<s.size):s=⟨#[]⟩:=ByteArray.ext (Array.eq_empty_of_size_eq_zero (by have:s.size=s.data.size:=rfl;omega))
theorem Qug(s:ByteArray)(hs:s.size<=140737488355328)(w:World):
    Calls Tryz.prog 88 #[.string s,Ji 0] w fun e w'=>e = .returned (Ji (wdLen s.data.toList:Int))/\w'=w:=by
  have:=Qjo s 0 (Nat.zero_le _) hs w;rw[List.drop_zero]at this;exact this
def wordP(l:Txt):Bool:=decide (l≠[])&&decide (wdLen l=l.length)&&decide (l.length<=64)
theorem Qjm(s:ByteArray)(hs:s.size<=140737488355328)(w:World):
    Calls Tryz.prog 92 #[.string s] w fun e w'=>e = .returned (.bool (wordP s.data.toList))/\w'=w:=by
  by_cases c:0<s.size
  · have f:s.toList.isEmpty=false:=by rw[Lib.toList_data,Qfl c];rfl
    have H:=hide (show wordP s.data.toList=(decide (wdLen s.data.toList=s.size)&&decide (s.size<=64)) by
      unfold wordP;rw[decide_eq_true (by rw[Qfl c];simp),<- Qcs,Bool.true_and])
    go_enter Tryz.func92,Tryz.ntmps92;by_cases a:wdLen s.data.toList=s.size
    · have d:((wdLen s.data.toList:Int)==(s.size:Int))=true:=by rw[beq_iff_eq,a]
      have b:=hide a;clear a;go_wp2_with (go_at_call 88;refine(Qug s hs _).mono ?_;rintro e w'⟨rfl,rfl⟩);go_ret;refine⟨Qcz ?_,rfl⟩;rw[Qa H,decide_eq_true (Qa b),Bool.true_and,Bool.eq_iff_iff];simp<;>omega
    · have d:((wdLen s.data.toList:Int)==(s.size:Int))=false:=by rw[beq_eq_false_iff_ne];omega
      have b:=hide a;clear a;go_wp2_with (go_at_call 88;refine(Qug s hs _).mono ?_;rintro e w'⟨rfl,rfl⟩);go_ret;exact⟨Qcz (by rw[Qa H,decide_eq_false (Qa b)];rfl),rfl⟩
  · have e:=Qlp c
    subst e;go_enter Tryz.func92,Tryz.ntmps92
    go_wp2
    go_ret;exact⟨rfl,rfl⟩
def cmV:Option Nat->Value
 |none=>.tuple #[.int .i64 0,.bool false]
 |some n=>.tuple #[.int .i64 ((n:Int)+4),.bool true]
theorem Qiz(s:ByteArray)(k n:Nat):(s.extract k (k+n)).data.toList=(s.data.toList.drop k).take n:=by
 have:(s.extract k (k+n)).data=s.data.extract k (k+n):=by simp
 rw[this,Array.toList_extract];simp[List.take_drop]
theorem Qdk{s:ByteArray}{l:Txt}(h:s.data.toList=l):s=⟨l.toArray⟩:=by
 cases s with
 |mk d=>subst h;rfl
theorem Qjn(s:ByteArray)(k n:Nat)(a b:Int)(ha:a=(k:Int))(hb:b=((k+n:Nat):Int))(hk:k+n<=s.size)(w:World):
  (Instr.slice 9 (.string s) (some (Ji a)) (some (Ji b)) none).run Tryz.prog w = .ok (.string (s.extract k (k+n))) w:=by
 subst ha hb;have:=run_slice_string (P:=Tryz.prog) w 9 s .i64 .i64 (k:Int) ((k+n:Nat):Int) Tryz.underlying9 (by omega) (by omega) (by omega);rwa [Int.toNat_natCast,Int.toNat_natCast]at this
theorem Qpc{s:ByteArray}{m:Nat}(h:m<s.size)(hb:isB (bv s[m])=true):gapAt (s.data.toList.drop m) = .gap 1:=by
  rw[Qar s m h,Qeh,if_pos hb]
theorem Qsh{s:ByteArray}{m:Nat}(h:m<s.size)(hb:isB (bv s[m])=false)(hp:pre [47,47] (s.data.toList.drop m)=true):gapAt (s.data.toList.drop m) = .gap (lnLen (s.data.toList.drop m)):=by
  rw[Qar s m h]at hp ⊢;rw[Qeh,if_neg (by simp[hb]),if_pos hp]
theorem Qsg{s:ByteArray}{m:Nat}(h:m<s.size)(hb:isB (bv s[m])=false)(hp:pre [47,47] (s.data.toList.drop m)=false)(hq:pre [47,42] (s.data.toList.drop m)=true):
    gapAt (s.data.toList.drop m)=cGap (s.data.toList.drop (m+2)):=by
  rw[Qar s m h]at hp hq ⊢;rw[Qeh,if_neg (by simp[hb]),if_neg (by simp[hp]),if_pos hq,List.drop_drop]
theorem gap_not{s:ByteArray}{m:Nat}(h:m<s.size)(hb:isB (bv s[m])=false)(hp:pre [47,47] (s.data.toList.drop m)=false)(hq:pre [47,42] (s.data.toList.drop m)=false):
    gapAt (s.data.toList.drop m) = .none:=by
  rw[Qar s m h]at hp hq ⊢;rw[Qeh,if_neg (by simp[hb]),if_neg (by simp[hp]),if_neg (by simp[hq])]
theorem pre_two{s:ByteArray}{m:Nat}{a b:UInt8}(h:pre [a,b] (s.data.toList.drop m)=true):m+2<=s.size:=by
  have:=Qev h;rw[Qbp]at this;simp only[List.length_cons,List.length_nil]at this;omega
def Gone(s:ByteArray)(k m:Nat):Prop:=k<=m/\m<=s.size/\scan k (s.data.toList.drop k)=scan m (s.data.toList.drop m)
theorem Gone.step{s:ByteArray}{k m n:Nat}(h:Gone s k m)(hg:gapAt (s.data.toList.drop m) = .gap n):Gone s k (m+n)/\0<n:=by
  have a:=Qdd hg;rw[Qbp]at a;refine⟨⟨by have:=h.1;omega,by have:=h.2.1;omega,?_⟩,a.1⟩;rw[h.2.2,Qdq hg,List.drop_drop]
def GapEnd(s:ByteArray)(k:Nat)(e:Ending):Prop:=∃m,Gone s k m /\
  ((gapAt (s.data.toList.drop m) = .never ∧ e = .returned (.tuple #[.int .i64 0, .agg #[.int .i64 7, .int .i64 (m : Int)]])) ∨
   (gapAt (s.data.toList.drop m) = .none/\e = .returned (.tuple #[.int .i64 (m:Int),.agg #[.int .i64 0,.int .i64 0]])))
end
end Go.Proofs.YtkhndlnadhggkaaGreat
namespace Go.Proofs.YtkhndlnadhggkaaGreat.Num
open Go.RowKit

def Fits(n:Int):Prop:=-9223372036854775808<=n/\n<=9223372036854775807
def addP(a b:Int):Int×Int:=if -9223372036854775808<=a+b/\a+b<=9223372036854775807 then (a+b,0) else (0,8)
def subP(a b:Int):Int×Int:=if -9223372036854775808<=a - b/\a - b<=9223372036854775807 then (a - b,0) else (0,8)
def mulP(a b:Int):Int×Int:=if -9223372036854775808<=a*b/\a*b<=9223372036854775807 then (a*b,0) else (0,8)
def divP(a b:Int):Int×Int:=if b=0 then (0,9) else if a = -9223372036854775808/\b = -1 then (0,8) else (a.tdiv b,0)
def remP(a b:Int):Int×Int:=if b=0 then (0,9) else (a.tmod b,0)
theorem mulP_in{a b:Int}(h:Fits (a*b)):mulP a b=(a*b,0):=by unfold mulP;exact if_pos h
theorem zero_mul(b:Int):mulP 0 b=(0,0):=by
 rw[mulP_in (by unfold Fits;omega)];simp
end Go.Proofs.YtkhndlnadhggkaaGreat.Num
namespace Go.Proofs.YtkhndlnadhggkaaGreat.Num
open Go.RowKit
def dig(c:UInt8):Bool:=decide (48<=c.toNat)&&decide (c.toNat<=57)
def valFrom:Nat->List UInt8->Nat
 |acc,[]=>acc
 |acc,c :: r=>valFrom (acc*10+(c.toNat - 48)) r
def trim(l:List UInt8):List UInt8:=Lib.trimPrefix l [45]
def isNeg(l:List UInt8):Bool:=l.head?==some 45
def numForm(l:List UInt8):Bool:=l==[48] || (!(trim l).isEmpty&&(trim l).head? != some 48&&(trim l).all dig)
def numVal(l:List UInt8):Int:=if isNeg l=true then -(valFrom 0 (trim l):Int) else (valFrom 0 (trim l):Int)
def parseP(l:List UInt8):Int×Int:=
 if numForm l=true then (if -9223372036854775808<=numVal l/\numVal l<=9223372036854775807 then (numVal l,0) else (0,8)) else (0,7)
end Go.Proofs.YtkhndlnadhggkaaGreat.Num
namespace Go.Proofs.YtkhndlnadhggkaaGreat.Num
open Go.ChangeShapes Go.WideShapes Go.ChangeAt Go.RowKit
theorem Qcz{a b:Bool}(h:a=b):Ending.returned (.bool a) = .returned (.bool b):=by rw[h]

def allDig(l:List UInt8):Bool:=l.all dig
end Go.Proofs.YtkhndlnadhggkaaGreat.Num
namespace Go.Proofs.YtkhndlnadhggkaaGreat
section
open Go.RowKit
structure TV where
 kd:Int
 tx:ByteArray
 nm:Int
 at_:Int
 nd:Int
 why:Int
 fa:Int
abbrev TV.val(t:TV):Value:=.tuple #[.agg #[.int .i64 t.kd,.string t.tx,.int .i64 t.nm,.int .i64 t.at_],.int .i64 t.nd,.agg #[.int .i64 t.why,.int .i64 t.fa]]
def resT(k:Nat):Res->TV
 | .tok kd tx nm n=>⟨kd,⟨tx.toArray⟩,nm,(k:Int),((k+n:Nat):Int),0,0⟩
 | .bad why o=>⟨0,⟨#[]⟩,0,0,0,why,((k+o:Nat):Int)⟩
abbrev tokZ:Obj:=.cells #[.int .i64 0,.string ⟨#[]⟩,.int .i64 0,.int .i64 0] 73
abbrev fltZ:Obj:=.cells #[.int .i64 0,.int .i64 0] 31
structure Boxes(w:World)(b c:Nat):Prop where
 x0:w.cell? ⟨b,0,none⟩=some (.int .i64 0)
 x1:w.cell? ⟨b,1,none⟩=some (.string ⟨#[]⟩)
 x2:w.cell? ⟨b,2,none⟩=some (.int .i64 0)
 x3:w.cell? ⟨b,3,none⟩=some (.int .i64 0)
 y0:w.cell? ⟨c,0,none⟩=some (.int .i64 0)
 y1:w.cell? ⟨c,1,none⟩=some (.int .i64 0)
 fx:∀o,w.frozen? ⟨b,o,none⟩=false
 fy:∀o,w.frozen? ⟨c,o,none⟩=false
theorem Qmk(w:World):Below w.heap.size w ((w.alloc tokZ).alloc fltZ):=((Below.refl _ w).alloc (Nat.le_refl _) _).alloc (by simp) _
theorem Qcm{w w2:World}(h:Below (w.heap.size+2) ((w.alloc tokZ).alloc fltZ) w2):Boxes w2 w.heap.size (w.heap.size+1):=by
 have a:w2.heap[w.heap.size]?=some tokZ:=by
  rw[h.block _ (by omega),Lib.alloc_old (w.alloc tokZ) _ _ (by simp)];exact heap_alloc_new w _
 have b:w2.heap[w.heap.size+1]?=some fltZ:=by
  rw[h.block _ (by omega)];have:=heap_alloc_new (w.alloc tokZ) fltZ;rwa [show(w.alloc tokZ).heap.size=w.heap.size+1 by simp]at this
 exact⟨by rw[Lib.cell_of_heap a];rfl,by rw[Lib.cell_of_heap a];rfl,by rw[Lib.cell_of_heap a];rfl,by rw[Lib.cell_of_heap a];rfl,
  by rw[Lib.cell_of_heap b];rfl,by rw[Lib.cell_of_heap b];rfl,fun o=>Lib.frozen_of_heap a o,fun o=>Lib.frozen_of_heap b o⟩
theorem Qbw{B:Nat}{w w2:World}(h:Below B w w2){b c:Nat}(hb:B<=b)(hc:B<=c)(q0 q1 q2 q3 q4 q5:Value):
  Below B w ((((((w2.setCell (Ja b 0) q0).setCell (Ja b 1) q1).setCell (Ja b 2) q2).setCell (Ja b 3) q3).setCell (Ja c 0) q4).setCell (Ja c 1) q5):=
 (((((h.setCell (p:=(Ja b 0)) hb q0).setCell (p:=(Ja b 1)) hb q1).setCell (p:=(Ja b 2)) hb q2).setCell (p:=(Ja b 3)) hb q3).setCell (p:=(Ja c 0)) hc q4).setCell (p:=(Ja c 1)) hc q5
theorem Qdb{a b:TV}(h:a=b):Ending.returned a.val = .returned b.val:=by rw[h]
theorem Qq{s:ByteArray}{m:Nat}(h:m<s.size):noW (s.data.toList.drop m) = !inW (bv s[m]):=by rw[Qar s m h];rfl
end
end Go.Proofs.YtkhndlnadhggkaaGreat
