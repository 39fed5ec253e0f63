/- A program's tokens as a program: the plain reading. syn's reader: what it holds; the tokens ahead of it. syn's reader: signs, names, words, depth. The library's contract on slices.Contains, laid at this program. -/
import Derived.Test.YtjebglmpopijhaaGreatDoorMs01
import Derived.Test.YtjebglmpopijhaaGreatDoorMs05
import Derived.WalkLawsBesides
import Derived.Shelf.Slices.Turned
import Derived.Test.YtjebglmpopijhaaGreatDoorProg
set_option maxRecDepth 100000
set_option maxHeartbeats 32000000
namespace Go.Proofs.YtjebglmpopijhaaGreatDoor
section
/-- An expression. -/
inductive Ex where
 | mk (kind n : Int) (s : Txt) (kids : List Ex) (at_ : Int)
namespace Ex
def kind : Ex → Int | mk k _ _ _ _ => k
def num : Ex → Int | mk _ n _ _ _ => n
def txt : Ex → Txt | mk _ _ s _ _ => s
def kids : Ex → List Ex | mk _ _ _ l _ => l
def at_ : Ex → Int | mk _ _ _ _ a => a
/-- None. -/
def none : Ex := mk 0 0 [] [] 0
end Ex
structure Fld where
 name : Txt
 type : Txt
structure Ctr where
 name : Txt
 fields : List Fld
structure Typ where
 name : Txt
 sub : Txt
 ctors : List Ctr
 at_ : Int
structure Dcl where
 name : Txt
 cols : List Fld
 input : Bool
 output : Bool
 at_ : Int
structure Ini where
 name : Txt
 comp : Txt
 at_ : Int
structure Atm where
 rel : Txt
 args : List Ex
 at_ : Int
def Atm.none : Atm := ⟨[], [], 0⟩
structure Lt where
 kind : Int
 atom : Atm
 op : Txt
 l : Ex
 r : Ex
 at_ : Int
structure Cls where
 head : Atm
 body : List Lt
 at_ : Int
/-- A program; a component is its name, its bases, its body, its place. -/
inductive Pg where
 | mk (types : List Typ) (decls : List Dcl) (comps : List (Txt × List Txt × Pg × Int)) (inits : List Ini) (clauses : List Cls)
namespace Pg
def types : Pg → List Typ | mk a _ _ _ _ => a
def decls : Pg → List Dcl | mk _ a _ _ _ => a
def comps : Pg → List (Txt × List Txt × Pg × Int) | mk _ _ a _ _ => a
def inits : Pg → List Ini | mk _ _ _ a _ => a
def clauses : Pg → List Cls | mk _ _ _ _ a => a
def none : Pg := mk [] [] [] [] []
end Pg

/-- What a reading answers: a fault, with the tokens that are left there; or what was read, the tokens that are left, and how many items have begun. -/
inductive Rs (α : Type) where
 | bad (why at_ : Int) (left : List Tok)
 | ok (a : α) (left : List Tok) (items : Nat)
abbrev Pr (α : Type) := List Tok → Nat → Rs α
def Rs.bind {α β : Type} : Rs α → (α → Pr β) → Rs β
 | .bad w a l, _ => .bad w a l
 | .ok x l i, f => f x l i
def Rs.map {α β : Type} (f : α → β) : Rs α → Rs β
 | .bad w a l => .bad w a l
 | .ok x l i => .ok (f x) l i

section

variable (e : Nat)
/-- The n-th token from here; behind the last one stands one of no kind. -/
def ahd (n : Nat) (l : List Tok) : Tok := l.getD n ⟨0, [], 0, e⟩
def refuse {α : Type} (why : Int) : Pr α := fun l _ => .bad why (ahd e 0 l).at_ l
/-- The sign that is next; no text, if something else is. -/
def sgn (l : List Tok) : Txt := if (ahd e 0 l).kind = 4 then (ahd e 0 l).text else []
def want (s : Txt) : Pr Unit := fun l i => if sgn e l = s then .ok () (l.drop 1) i else refuse e 10 l i
def choose (ss : List Txt) : Pr Txt := fun l i => if sgn e l ∈ ss then .ok (ahd e 0 l).text (l.drop 1) i else refuse e 10 l i
def nmQ : Pr Txt := fun l i => if (ahd e 0 l).kind = 1 then .ok (ahd e 0 l).text (l.drop 1) i else refuse e 10 l i
/-- May a token name something new? -/
def isW1 (t : Tok) : Bool := decide (t.kind = 1) && decide (t.text ≠ [95]) && !t.text.contains 46
def wordQ : Pr Txt := fun l i => if isW1 (ahd e 0 l) = true then .ok (ahd e 0 l).text (l.drop 1) i else refuse e 10 l i
def callN (l : List Tok) : Bool := decide ((ahd e 0 l).kind = 1) && decide ((ahd e 1 l).kind = 4) && decide ((ahd e 1 l).text = [40])
/-- Parts with a sign between them, at most some. -/
def listL {α : Type} (sep : Txt) (most : Nat) (part : Pr α) : Nat → List α → Pr (List α)
 | 0, acc, l, i => .ok acc l i
 | f + 1, acc, l, i => if acc.length = most then refuse e 3 l i else
  (part l i).bind fun x l i => if sgn e l = sep then listL sep most part f (acc ++ [x]) (l.drop 1) i else .ok (acc ++ [x]) l i
def listP {α : Type} (sep : Txt) (most : Nat) (part : Pr α) : Pr (List α) := fun l i => listL e sep most part (l.length + 1) [] l i
def encl {α : Type} (op cl : Txt) (part : Pr α) : Pr (List α) := fun l i =>
 (want e op l i).bind fun _ l i => if sgn e l = cl then .ok [] (l.drop 1) i else
  (listP e [44] 8 part l i).bind fun xs l i => (want e cl l i).map fun _ => xs

/-- An operator. -/
def opE (s : Txt) (x y : Ex) : Ex := .mk 5 0 s [x, y] x.at_
def joinL (operand : Pr Ex) (signs : List Txt) : Nat → Ex → Pr Ex
 | 0, x, l, i => .ok x l i
 | f + 1, x, l, i => if sgn e l ∈ signs then (operand (l.drop 1) i).bind fun y l2 i => joinL operand signs f (opE (ahd e 0 l).text x y) l2 i else .ok x l i
def joined (operand : Pr Ex) (signs : List Txt) : Pr Ex := fun l i => (operand l i).bind fun x l i => joinL e operand signs (l.length + 1) x l i
/-- A factor that begins with a sign. E: an expression within; F: a factor within. -/
def signed (E F : Pr Ex) : Pr Ex := fun l i =>
 (choose e [[45], [40], [36]] l i).bind fun s l2 i =>
  if s = [45] then (F l2 i).map fun x => if (ahd e 0 l2).kind = 2 then .mk 2 (- x.num) [] [] (ahd e 0 l).at_ else opE [45] (.mk 2 0 [] [] (ahd e 0 l).at_) x
  else if s = [40] then (E l2 i).bind fun x l i => (want e [41] l i).map fun _ => x
  else (wordQ e l2 i).bind fun w l3 i => (encl e [40] [41] E l3 i).map fun ks => .mk 6 0 w ks (ahd e 0 l).at_
def factorB (E F : Pr Ex) : Pr Ex := fun l i =>
 if (ahd e 0 l).kind = 2 then .ok (.mk 2 (ahd e 0 l).num [] [] (ahd e 0 l).at_) (l.drop 1) i
 else if (ahd e 0 l).kind = 3 then .ok (.mk 3 0 (ahd e 0 l).text [] (ahd e 0 l).at_) (l.drop 1) i
 else if (ahd e 0 l).kind = 1 then
  if (ahd e 0 l).text = [95] then .ok (.mk 4 0 [] [] (ahd e 0 l).at_) (l.drop 1) i
  else (wordQ e l i).map fun w => .mk 1 0 w [] (ahd e 0 l).at_
 else signed e E F l i
def exprB (F : Pr Ex) : Pr Ex := joined e (joined e F [[42], [47], [37]]) [[43], [45]]
/-- An expression and a factor, where d more may be begun. -/
def exD : Nat → Pr Ex × Pr Ex
 | 0 => (refuse e 4, refuse e 4)
 | d + 1 => (exprB e (exD d).2, factorB e (exD d).1 (exD d).2)

def atomP (d : Nat) : Pr Atm := fun l i => (nmQ e l i).bind fun n l2 i => (encl e [40] [41] (exD e d).1 l2 i).map fun zs => ⟨n, zs, (ahd e 0 l).at_⟩
def litP (d : Nat) : Pr Lt := fun l i =>
 if sgn e l = [33] then (atomP e d (l.drop 1) i).map fun a => ⟨2, a, [], .none, .none, (ahd e 0 l).at_⟩
 else if callN e l = true then (atomP e d l i).map fun a => ⟨1, a, [], .none, .none, (ahd e 0 l).at_⟩
 else ((exD e d).1 l i).bind fun x l2 i => (choose e [[61], [33, 61], [60], [60, 61], [62], [62, 61]] l2 i).bind fun o l3 i => ((exD e d).1 l3 i).map fun y => ⟨3, .none, o, x, y, (ahd e 0 l).at_⟩
def clauseP (d : Nat) : Pr Cls := fun l i =>
 (atomP e d l i).bind fun h l2 i =>
  if sgn e l2 = [58, 45] then (listP e [44] 16 (litP e d) (l2.drop 1) i).bind fun b l3 i => (want e [46] l3 i).map fun _ => ⟨h, b, (ahd e 0 l).at_⟩
  else (want e [46] l2 i).map fun _ => ⟨h, [], (ahd e 0 l).at_⟩
def fieldP : Pr Fld := fun l i => (wordQ e l i).bind fun n l i => (want e [58] l i).bind fun _ l i => (nmQ e l i).map fun t => ⟨n, t⟩
def ctorP : Pr Ctr := fun l i => (wordQ e l i).bind fun n l i => (encl e [123] [125] (fieldP e) l i).map fun fs => ⟨n, fs⟩
/-- Lists of which no most is named. -/
def noMost : Nat := 9223372036854775807
def typeP : Pr Typ := fun l i =>
 (wordQ e (l.drop 1) i).bind fun n l2 i => (choose e [[60, 58], [61]] l2 i).bind fun s l3 i =>
  if s = [60, 58] then (nmQ e l3 i).map fun t => ⟨n, t, [], (ahd e 0 l).at_⟩ else (listP e [124] noMost (ctorP e) l3 i).map fun cs => ⟨n, [], cs, (ahd e 0 l).at_⟩
def wIn : Txt := [105, 110, 112, 117, 116]
def wOut : Txt := [111, 117, 116, 112, 117, 116]
def flagL : Nat → Bool → Bool → Pr (Bool × Bool)
 | 0, a, b, l, i => .ok (a, b) l i
 | f + 1, a, b, l, i => if (ahd e 0 l).kind = 1 ∧ callN e l = false then
   (if (ahd e 0 l).text = wIn then flagL f true b (l.drop 1) i else if (ahd e 0 l).text = wOut then flagL f a true (l.drop 1) i else .ok (a, b) l i)
  else .ok (a, b) l i
def declP : Pr Dcl := fun l i =>
 (wordQ e (l.drop 1) i).bind fun n l2 i => (encl e [40] [41] (fieldP e) l2 i).bind fun cs l3 i => (flagL e (l3.length + 1) false false l3 i).map fun p => ⟨n, cs, p.1, p.2, (ahd e 0 l).at_⟩
def initP : Pr Ini := fun l i => (wordQ e (l.drop 1) i).bind fun n l2 i => (want e [61] l2 i).bind fun _ l3 i => (nmQ e l3 i).map fun c => ⟨n, c, (ahd e 0 l).at_⟩
/-- A component; B: its body. -/
def compB (B : Pr Pg) : Pr (Txt × List Txt × Pg × Int) := fun l i =>
 (wordQ e (l.drop 1) i).bind fun n l2 i =>
  (if sgn e l2 = [58] then listP e [44] noMost (nmQ e) (l2.drop 1) i else .ok [] l2 i).bind fun bs l3 i =>
   (want e [123] l3 i).bind fun _ l4 i => (B l4 i).bind fun p l5 i => (want e [125] l5 i).map fun _ => (n, bs, p, (ahd e 0 l).at_)
/-- One item, into a program. -/
def itemP (d : Nat) (C : Pr (Txt × List Txt × Pg × Int)) (p : Pg) : Pr Pg := fun l i =>
 if i = 96 then refuse e 3 l i
 else if sgn e l = [46, 116, 121, 112, 101] then (typeP e l (i + 1)).map fun x => .mk (p.types ++ [x]) p.decls p.comps p.inits p.clauses
 else if sgn e l = [46, 100, 101, 99, 108] then (declP e l (i + 1)).map fun x => .mk p.types (p.decls ++ [x]) p.comps p.inits p.clauses
 else if sgn e l = [46, 99, 111, 109, 112] then (C l (i + 1)).map fun x => .mk p.types p.decls (p.comps ++ [x]) p.inits p.clauses
 else if sgn e l = [46, 105, 110, 105, 116] then (initP e l (i + 1)).map fun x => .mk p.types p.decls p.comps (p.inits ++ [x]) p.clauses
 else (clauseP e d l (i + 1)).map fun x => .mk p.types p.decls p.comps p.inits (p.clauses ++ [x])
/-- Is the end there: of all (top), or of a component? -/
def isEnd (top : Bool) (l : List Tok) : Bool := if top then decide ((ahd e 0 l).kind = 0) && decide ((ahd e 0 l).text = []) else decide ((ahd e 0 l).kind = 4) && decide ((ahd e 0 l).text = [125])
def progL (top : Bool) (d : Nat) (C : Pr (Txt × List Txt × Pg × Int)) : Nat → Pg → Pr Pg
 | 0, p, l, i => .ok p l i
 | f + 1, p, l, i => if isEnd e top l = true then .ok p l i else (itemP e d C p l i).bind fun p l i => progL top d C f p l i
/-- Items up to an end, where d more may be begun. -/
def progD : Nat → Bool → Pr Pg
 | 0, top => fun l i => progL e top 0 (refuse e 4) (l.length + 1) .none l i
 | d + 1, top => fun l i => progL e top (d + 1) (compB e (progD d false)) (l.length + 1) .none l i
end
/-- A program's reading. -/
def synP (s : Txt) (toks : List Tok) : Rs Pg := progD s.length 32 true toks 0
end
section
open Go.RowKit
structure Kp (rb : Nat) (w w' : World) : Prop where
 os : w'.os = w.os
 tape : w'.tape = w.tape
 output : w'.output = w.output
 size : w.heap.size ≤ w'.heap.size
 block : ∀ k, k < w.heap.size → k ≠ rb → w'.heap[k]? = w.heap[k]?
theorem Kp.refl (rb : Nat) (w : World) : Kp rb w w := ⟨rfl, rfl, rfl, Nat.le_refl _, fun _ _ _ => rfl⟩
theorem Kp.trans {rb : Nat} {a b c : World} (h : Kp rb a b) (k : Kp rb b c) : Kp rb a c := ⟨k.os.trans h.os, k.tape.trans h.tape, k.output.trans h.output, Nat.le_trans h.size k.size, fun i hi hn => (k.block i (by have := h.size; omega) hn).trans (h.block i hi hn)⟩
theorem Kp.of_below {rb : Nat} {w w' : World} (h : Below w.heap.size w w') : Kp rb w w' := ⟨h.os, h.tape, h.output, h.size, fun k hk _ => h.block k hk⟩
theorem Kp.below {rb B : Nat} {w w' : World} (h : Kp rb w w') (hB : B ≤ w.heap.size) (hr : B ≤ rb) : Below B w w' := ⟨h.os, h.tape, h.output, h.size, fun k hk => h.block k (by omega) (by omega)⟩
theorem Qag {w : World} {k : Nat} {o : Obj} (h : w.heap[k]? = some o) : k < w.heap.size := (Array.getElem?_eq_some_iff.1 h).1
theorem Qad {w : World} {b : Nat} {cs : Array Value} {t : TypeId} {f : Nat × Nat} (h : w.heap[b]? = some (.cells cs t f)) (i : Nat) : w.cell? ⟨b, i, none⟩ = cs[i]? := by simp [World.cell?, h]

structure TokAt (w : World) (b o : Nat) (t : Tok) : Prop where
 c0 : w.cell? ⟨b, o, none⟩ = some (.int .i64 t.kind)
 c1 : w.cell? ⟨b, o + 1, none⟩ = some (str t.text)
 c2 : w.cell? ⟨b, o + 2, none⟩ = some (.int .i64 t.num)
 c3 : w.cell? ⟨b, o + 3, none⟩ = some (.int .i64 (t.at_ : Int))
theorem TokAt.same {w w' : World} {b o : Nat} {t : Tok} (h : TokAt w b o t) (hb : w'.heap[b]? = w.heap[b]?) : TokAt w' b o t := by
 obtain ⟨c0, c1, c2, c3⟩ := h
 simp only [World.cell?] at c0 c1 c2 c3
 constructor <;> simp only [World.cell?] <;> rw [hb] <;> assumption
theorem TokAt.lt {w : World} {b o : Nat} {t : Tok} (h : TokAt w b o t) : b < w.heap.size := World.block_lt_of_cell? w _ h.c0
def TokSl (rb : Nat) (w : World) (v : Value) (l : List Tok) : Prop := ∃ a cap, v = .slice a l.length cap ∧ l.length ≤ cap ∧ cap ≤ maxLen ∧ ∀ j t, l[j]? = some t → ∃ b o, a = some ⟨b, o, none⟩ ∧ b < rb ∧ TokAt w b (o + j * 4) t
theorem TokSl.kp {rb : Nat} {w w' : World} {v : Value} {l : List Tok} (h : TokSl rb w v l) (k : Kp rb w w') : TokSl rb w' v l := by
 obtain ⟨a, cap, h1, h2, h3, h4⟩ := h
 refine ⟨a, cap, h1, h2, h3, fun j t hj => ?_⟩
 obtain ⟨b, o, e1, e2, e3⟩ := h4 j t hj
 exact ⟨b, o, e1, e2, e3.same (k.block b e3.lt (by omega))⟩
structure Rd (rb e : Nat) (w : World) (l : List Tok) (it dp : Nat) : Prop where
 box : ∃ v, w.heap[rb]? = some (.cells #[v, .int .i64 (e : Int), .int .i64 (it : Int), .int .i64 (dp : Int)] 94 (0, 0)) ∧ TokSl rb w v l
 num : ∀ t ∈ l, 0 ≤ t.kind ∧ t.kind ≤ 4 ∧ 0 ≤ t.num ∧ t.num ≤ 9223372036854775807 ∧ t.at_ ≤ 65536
 len : l.length ≤ 65536
 end_ : e ≤ 65536
theorem Rd.lt {rb e : Nat} {w : World} {l : List Tok} {it dp : Nat} (h : Rd rb e w l it dp) : rb < w.heap.size := by
 obtain ⟨v, h1, _⟩ := h.box
 exact Qag h1
theorem Rd.later {rb e : Nat} {w w' : World} {l : List Tok} {it dp : Nat} (h : Rd rb e w l it dp) (b : Below w.heap.size w w') : Rd rb e w' l it dp := by
 obtain ⟨v, h1, h2⟩ := h.box
 exact ⟨⟨v, (b.block _ (Qag h1)).trans h1, h2.kp (Kp.of_below b)⟩, h.num, h.len, h.end_⟩
abbrev tokV (t : Tok) : Value := .agg #[.int .i64 t.kind, str t.text, .int .i64 t.num, .int .i64 (t.at_ : Int)]
def noTok (e : Nat) : Tok := ⟨0, [], 0, e⟩
theorem Qro {e n : Nat} {l : List Tok} {t : Tok} (h : l[n]? = some t) : ahd e n l = t := by simp [ahd, List.getD_eq_getElem?_getD, h]
theorem Qrn {e n : Nat} {l : List Tok} (h : l.length ≤ n) : ahd e n l = noTok e := by simp [ahd, List.getD_eq_getElem?_getD, List.getElem?_eq_none h, noTok]

theorem Qbc {rb e : Nat} {w : World} {l : List Tok} {it dp : Nat} (h : Rd rb e w l it dp) (n : Nat) :
  Calls Tryz.prog 104 #[.pointer (some ⟨rb, 0, none⟩), .int .i64 (n : Int)] w fun en w' => en = .returned (tokV (ahd e n l)) ∧ Below w.heap.size w w' := by
 obtain ⟨v, hbx, a, cap, rfl, hc1, hc2, ht⟩ := h.box
 have c0 : w.cell? ⟨rb, 0, none⟩ = some (.slice a l.length cap) := by rw [Qad hbx]; rfl
 have c1 : w.cell? ⟨rb, 1, none⟩ = some (.int .i64 (e : Int)) := by rw [Qad hbx]; rfl
 have hrb : rb < w.heap.size := Qag hbx
 have z0 : (w.alloc (.cells #[.int .i64 0, .string ⟨#[]⟩, .int .i64 0, .int .i64 0] 49)).cell? ⟨rb, 0, none⟩ = some (.slice a l.length cap) := (World.cell?_alloc_lt w _ _ hrb).trans c0
 have z1 : (w.alloc (.cells #[.int .i64 0, .string ⟨#[]⟩, .int .i64 0, .int .i64 0] 49)).cell? ⟨rb, 1, none⟩ = some (.int .i64 (e : Int)) := (World.cell?_alloc_lt w _ _ hrb).trans c1
 have hl := h.len
 by_cases hn : n < l.length
 ·
  obtain ⟨b, o, rfl, hb, hT⟩ := ht n _ (List.getElem?_eq_getElem hn)
  have hbl := hT.lt
  have hT' : TokAt (w.alloc (.cells #[.int .i64 0, .string ⟨#[]⟩, .int .i64 0, .int .i64 0] 49)) b (o + n * 4) l[n] := hT.same (Below.heap_alloc w _ _ hbl)
  have k0 := hT'.c0
  have k1 := hT'.c1
  have k2 := hT'.c2
  have k3 := hT'.c3
  have hA := hide (Qro (e := e) (List.getElem?_eq_getElem hn))
  generalize l[n] = t at k0 k1 k2 k3 hA
  have hg : ¬ ((l.length : Int) ≤ (n : Int)) := by omega
  clear hT hT' hbx ht c0 c1 h
  go_enter Tryz.func104, Tryz.ntmps104
  go_wp2_with fail
  refine bodyPost_ret (v := tokV t) (by simp [results, Tryz.results104, go_sem]) rfl ?_
  exact ⟨by rw [Qa hA], (Below.refl _ w).alloc (Nat.le_refl _) _⟩
 have hA := hide (Qrn (e := e) (l := l) (n := n) (by omega))
 have hg : (l.length : Int) ≤ (n : Int) := by omega
 clear hbx ht c0 c1 h
 go_enter Tryz.func104, Tryz.ntmps104
 go_wp2_with fail
 refine bodyPost_ret (v := tokV (noTok e)) (by simp [results, Tryz.results104, go_sem, noTok]) rfl ?_
 exact ⟨by rw [Qa hA], (Below.refl _ w).alloc (Nat.le_refl _) _⟩

theorem Rd.cells {rb e : Nat} {w : World} {l : List Tok} {it dp : Nat} (h : Rd rb e w l it dp) : ∃ a cap, w.cell? ⟨rb, 0, none⟩ = some (.slice a l.length cap) ∧ w.cell? ⟨rb, 1, none⟩ = some (.int .i64 (e : Int)) ∧ w.cell? ⟨rb, 2, none⟩ = some (.int .i64 (it : Int)) ∧ w.cell? ⟨rb, 3, none⟩ = some (.int .i64 (dp : Int)) ∧ ∀ o, w.frozen? ⟨rb, o, none⟩ = false := by
 obtain ⟨v, hbx, a, cap, rfl, _⟩ := h.box
 refine ⟨a, cap, by rw [Qad hbx]; rfl, by rw [Qad hbx]; rfl, by rw [Qad hbx]; rfl, by rw [Qad hbx]; rfl, fun o => by simp [World.frozen?, hbx]⟩
theorem Qae {w : World} {b : Nat} {cur : Array Value} {t : TypeId} {f : Nat × Nat} (h : w.heap[b]? = some (.cells cur t f)) (i : Nat) (v : Value) : (w.setCell ⟨b, i, none⟩ v).heap[b]? = some (.cells (cur.setIfInBounds i v) t f) := by
 obtain ⟨hlt, hk⟩ := Array.getElem?_eq_some_iff.1 h
 show (w.heap.modify b _)[b]? = _
 rw [Array.getElem?_eq_getElem (by rw [Array.size_modify]; exact hlt), Array.getElem_modify_self, hk]
 rfl
theorem hpS {w : World} {p : Addr} {v : Value} {k : Nat} (h : k ≠ p.block) : (w.setCell p v).heap[k]? = w.heap[k]? := Below.heap_setCell _ _ _ _ h
theorem Kp.set (rb : Nat) (w : World) (i : Nat) (v : Value) : Kp rb w (w.setCell ⟨rb, i, none⟩ v) := by
 have h := (Below.refl 0 w).setCell (p := ⟨rb, i, none⟩) (Nat.zero_le _) v
 exact ⟨h.os, h.tape, h.output, h.size, fun k _ hn => hpS hn⟩

theorem Qdf {rb e : Nat} {w : World} {t : Tok} {l : List Tok} {it dp : Nat} (h : Rd rb e w (t :: l) it dp) :
  Calls Tryz.prog 147 #[.pointer (some ⟨rb, 0, none⟩)] w fun en w' => en = .returned (tokV t) ∧ Rd rb e w' l it dp ∧ Kp rb w w' := by
 obtain ⟨w1, hw1⟩ : ∃ w1, w1 = w.alloc (.cells #[.int .i64 0, .string ⟨#[]⟩, .int .i64 0, .int .i64 0] 49) := ⟨_, rfl⟩
 have b1 : Below w.heap.size w w1 := by rw [hw1]; exact (Below.refl _ w).alloc (Nat.le_refl _) _
 have h1 := h.later b1
 have ha := Qbc h1 0
 have hw1' := hide hw1
 have q1 : w1.heap[w.heap.size]? = some (.cells #[.int .i64 0, .string ⟨#[]⟩, .int .i64 0, .int .i64 0] 49 (0, 0)) := by rw [hw1]; exact heap_alloc_new w _
 have HH := hide (Ya h1 (Ya b1 q1))
 have e0 : ahd e 0 (t :: l) = t := rfl
 rw [e0] at ha
 clear h h1 b1 hw1 q1 e0
 go_enter Tryz.func147, Tryz.ntmps147
 go_wp2_with fail
 rw [← Qa hw1']
 refine ha.mono ?_
 clear ha
 rintro en w2 ⟨rfl, b2⟩
 obtain ⟨w3, hw3⟩ : ∃ w3, w3 = w2.alloc (.cells #[.int .i64 t.kind, str t.text, .int .i64 t.num, .int .i64 (t.at_ : Int)] 49) := ⟨_, rfl⟩
 have b3 : Below w2.heap.size w2 w3 := by rw [hw3]; exact (Below.refl _ w2).alloc (Nat.le_refl _) _
 have n3 : w3.heap[w2.heap.size]? = some (.cells #[.int .i64 t.kind, str t.text, .int .i64 t.num, .int .i64 (t.at_ : Int)] 49 (0, 0)) := by rw [hw3]; exact heap_alloc_new w2 _
 have b13 : Below w1.heap.size w1 w3 := b2.trans (b3.mono b2.size)
 have h3 := (Qa HH).1.later b13
 obtain ⟨v, hbx, a, cap, rfl, hc1, hc2, ht⟩ := h3.box
 obtain ⟨b, o, rfl, hb, hT⟩ := ht 0 t rfl
 have c0 : w3.cell? ⟨rb, 0, none⟩ = some (.slice (some ⟨b, o, none⟩) (t :: l).length cap) := by rw [Qad hbx]; rfl
 have f0 : w3.frozen? ⟨rb, 0, none⟩ = false := by simp [World.frozen?, hbx]
 rw [List.length_cons] at c0 hc1
 have hsz2 : w.heap.size < w2.heap.size := by have := b2.size; have := Qag (Qa HH).2.2; omega
 have hrw : rb < w.heap.size := by
  have h0 := (Qa HH).1.lt
  have e : w1.heap.size = w.heap.size + 1 := by rw [Qa hw1']; simp
  have := Qag hbx
  have hne : rb ≠ w.heap.size := fun e2 => by
   obtain ⟨v', hv', _⟩ := (Qa HH).1.box
   rw [e2, (Qa HH).2.2] at hv'
   simp at hv'
  omega
 have X0 : ∀ v, (w3.setCell ⟨rb, 0, none⟩ v).heap[w2.heap.size]? = some (.cells #[.int .i64 t.kind, str t.text, .int .i64 t.num, .int .i64 (t.at_ : Int)] 49 (0, 0)) := fun v => by rw [hpS (by show w2.heap.size ≠ rb; omega)]; exact n3
 have X1 : ∀ v, (w3.setCell ⟨rb, 0, none⟩ v).heap[w.heap.size]? = some (.cells #[.int .i64 0, .string ⟨#[]⟩, .int .i64 0, .int .i64 0] 49 (0, 0)) := fun v => by
  rw [hpS (by show w.heap.size ≠ rb; omega), b13.block _ (Qag (Qa HH).2.2)]
  exact (Qa HH).2.2
 have FIN : Hid (∀ v q0 q1 q2 q3, TokSl rb w3 v l → Rd rb e (((((w3.setCell ⟨rb, 0, none⟩ v).setCell ⟨w.heap.size, 0, none⟩ q0).setCell ⟨w.heap.size, 1, none⟩ q1).setCell ⟨w.heap.size, 2, none⟩ q2).setCell ⟨w.heap.size, 3, none⟩ q3) l it dp ∧ Kp rb w (((((w3.setCell ⟨rb, 0, none⟩ v).setCell ⟨w.heap.size, 0, none⟩ q0).setCell ⟨w.heap.size, 1, none⟩ q1).setCell ⟨w.heap.size, 2, none⟩ q2).setCell ⟨w.heap.size, 3, none⟩ q3)) := fun v q0 q1 q2 q3 hv => by
  have hs : ∀ k, k ≠ w.heap.size → (((((w3.setCell ⟨rb, 0, none⟩ v).setCell ⟨w.heap.size, 0, none⟩ q0).setCell ⟨w.heap.size, 1, none⟩ q1).setCell ⟨w.heap.size, 2, none⟩ q2).setCell ⟨w.heap.size, 3, none⟩ q3).heap[k]? = (w3.setCell ⟨rb, 0, none⟩ v).heap[k]? := fun k hk => by
   rw [hpS hk, hpS hk, hpS hk, hpS hk]
  have bb : Below w.heap.size w w3 := (Qa HH).2.1.trans (b13.mono (Qa HH).2.1.size)
  have kk := (((((Below.refl 0 w3).setCell (p := ⟨rb, 0, none⟩) (Nat.zero_le _) v).setCell (p := ⟨w.heap.size, 0, none⟩) (Nat.zero_le _) q0).setCell (p := ⟨w.heap.size, 1, none⟩) (Nat.zero_le _) q1).setCell (p := ⟨w.heap.size, 2, none⟩) (Nat.zero_le _) q2).setCell (p := ⟨w.heap.size, 3, none⟩) (Nat.zero_le _) q3
  have K : Kp rb w (((((w3.setCell ⟨rb, 0, none⟩ v).setCell ⟨w.heap.size, 0, none⟩ q0).setCell ⟨w.heap.size, 1, none⟩ q1).setCell ⟨w.heap.size, 2, none⟩ q2).setCell ⟨w.heap.size, 3, none⟩ q3) :=
   ⟨kk.os.trans bb.os, kk.tape.trans bb.tape, kk.output.trans bb.output, Nat.le_trans bb.size kk.size, fun k hk hn => by rw [hs k (by omega), hpS hn]; exact bb.block k hk⟩
  refine ⟨⟨⟨v, ?_, ?_⟩, fun x hx => h3.num x (List.mem_cons_of_mem _ hx), by have := h3.len; rw [List.length_cons] at this; omega, h3.end_⟩, K⟩
  · rw [hs rb (by omega)]; exact (Qae hbx 0 v).trans rfl
  obtain ⟨a, cp, e1, e2, e3, e4⟩ := hv
  refine ⟨a, cp, e1, e2, e3, fun j x hx => ?_⟩
  obtain ⟨b', o', g1, g2, g3⟩ := e4 j x hx
  refine ⟨b', o', g1, g2, g3.same ?_⟩
  rw [hs b' (by omega), hpS (by show b' ≠ rb; omega)]
 have SL : Hid (∀ (cp : Nat) (sa : Option Addr), l.length ≤ cp → cp ≤ maxLen → (0 < l.length → sa = some ⟨b, o + 4, none⟩) → TokSl rb w3 (.slice sa l.length cp) l) := fun cp sa g1 g2 g3 => by
  refine ⟨sa, cp, rfl, g1, g2, fun j x hx => ?_⟩
  have hj : j < l.length := (List.getElem?_eq_some_iff.1 hx).1
  obtain ⟨b', o', g1', g2', g3'⟩ := ht (j + 1) x (by simpa using hx)
  simp only [Option.some.injEq, Addr.mk.injEq] at g1'
  obtain ⟨rfl, rfl, _⟩ := g1'
  exact ⟨b, o + 4, g3 (by omega), hb, by rw [show o + 4 + j * 4 = o + (j + 1) * 4 by omega]; exact g3'⟩
 have HX := hide (Ya X0 X1)
 have hl : l.length ≤ 65536 := by have := h3.len; rw [List.length_cons] at this; omega
 subst hw3
 clear b2 b3 n3 b13 h3 hbx ht hT X0 X1
 by_cases hcap : 1 < cap
 case pos =>
  have k1 : ¬ (cap - 1 = 0) := by omega
  have k2 : ¬ (cap = 1) := by omega
  have k3 : 1 ≤ cap := by omega
  have Y := (Qa HX).2 (.slice (some ⟨b, o + 4, none⟩) l.length (cap - 1))
  have y0 := (Qad Y 0).trans (show _ = some (.int .i64 0) from rfl)
  have y1 := (Qad Y 1).trans (show _ = some (.string ⟨#[]⟩) from rfl)
  have y2 := (Qad Y 2).trans (show _ = some (.int .i64 0) from rfl)
  have y3 := (Qad Y 3).trans (show _ = some (.int .i64 0) from rfl)
  have yf : ∀ o', ((w2.alloc (.cells #[.int .i64 t.kind, str t.text, .int .i64 t.num, .int .i64 (t.at_ : Int)] 49)).setCell ⟨rb, 0, none⟩ (.slice (some ⟨b, o + 4, none⟩) l.length (cap - 1))).frozen? ⟨w.heap.size, o', none⟩ = false := fun o' => by simp [World.frozen?, Y]
  clear Y
  go_wp2_with fail
  refine bodyPost_ret (v := tokV t) (by simp [results, Tryz.results147, go_sem, y0, y1, y2, y3]) rfl ?_
  exact ⟨rfl, Qa FIN _ _ _ _ _ (Qa SL (cap - 1) _ (by omega) (by omega) (fun _ => rfl))⟩
 obtain rfl : l = [] := List.length_eq_zero_iff.1 (by omega)
 obtain rfl : cap = 1 := by simp at hc1; omega
 have Y := (Qa HX).2 (.slice (some ⟨b, o, none⟩) 0 0)
 have y0 := (Qad Y 0).trans (show _ = some (.int .i64 0) from rfl)
 have y1 := (Qad Y 1).trans (show _ = some (.string ⟨#[]⟩) from rfl)
 have y2 := (Qad Y 2).trans (show _ = some (.int .i64 0) from rfl)
 have y3 := (Qad Y 3).trans (show _ = some (.int .i64 0) from rfl)
 have yf : ∀ o', ((w2.alloc (.cells #[.int .i64 t.kind, str t.text, .int .i64 t.num, .int .i64 (t.at_ : Int)] 49)).setCell ⟨rb, 0, none⟩ (.slice (some ⟨b, o, none⟩) 0 0)).frozen? ⟨w.heap.size, o', none⟩ = false := fun o' => by simp [World.frozen?, Y]
 clear Y
 go_wp2_with fail
 refine bodyPost_ret (v := tokV t) (by simp [results, Tryz.results147, go_sem, y0, y1, y2, y3]) rfl ?_
 exact ⟨rfl, Qa FIN _ _ _ _ _ (Qa SL 0 _ (Nat.le_refl _) (Nat.zero_le _) (fun h => absurd h (Nat.lt_irrefl 0)))⟩
abbrev stopV (why at_ : Int) : Value := .iface 132 (.agg #[.int .i64 why, .int .i64 at_])
def Ans {α : Type} (rb e dp : Nat) (w : World) (VA : World → Value → α → Prop) (r : Rs α) (en : Ending) (w' : World) : Prop := match r with
 | .bad why at_ _ => en = .panicked [{ v := stopV why at_, recovered := false }] ∧ Kp rb w w'
 | .ok x l i => ∃ v, en = .returned v ∧ VA w' v x ∧ Rd rb e w' l i dp ∧ Kp rb w w'

theorem Qcm {rb e : Nat} {w : World} {l : List Tok} {it dp : Nat} (h : Rd rb e w l it dp) (why : Int) :
  Calls Tryz.prog 129 #[.pointer (some ⟨rb, 0, none⟩), .int .i64 why] w fun en w' => en = .panicked [{ v := stopV why (ahd e 0 l).at_, recovered := false }] ∧ Below w.heap.size w w' := by
 have ha := Qbc h 0
 clear h
 generalize ahd e 0 l = t at ha
 unfold tokV at ha
 go_enter Tryz.func129, Tryz.ntmps129
 go_wp2_with fail
 refine ha.mono ?_
 clear ha
 rintro en w2 ⟨rfl, b2⟩
 have B2 := hide b2
 clear b2
 go_wp2_with fail
 rename_i hK
 refine hK _ _ ?_
 go_wp2_with fail
 exact ⟨rfl, rfl, Qa B2⟩

theorem Qge {rb e : Nat} {w : World} {l : List Tok} {it dp : Nat} (h : Rd rb e w l it dp) :
  Calls Tryz.prog 130 #[.pointer (some ⟨rb, 0, none⟩)] w fun en w' => en = .returned (str (sgn e l)) ∧ Below w.heap.size w w' := by
 have ha := Qbc h 0
 have hS := hide (show sgn e l = if (ahd e 0 l).kind = 4 then (ahd e 0 l).text else [] from rfl)
 clear h
 generalize ahd e 0 l = t at ha hS
 by_cases hk : t.kind = 4
 ·
  have hk2 : (t.kind == 4) = true := by simpa using hk
  have HK := hide hk
  clear hk
  go_enter Tryz.func130, Tryz.ntmps130
  go_wp2_with fail
  refine ha.mono ?_
  clear ha
  rintro en w2 ⟨rfl, b2⟩
  have B2 := hide b2
  clear b2
  go_wp2_with fail
  go_ret
  exact ⟨by rw [Qa hS, if_pos (Qa HK)]; rfl, (Qa B2).alloc (Qa B2).size _⟩
 have hk2 : (t.kind == 4) = false := by simpa using hk
 have HK := hide hk
 clear hk
 go_enter Tryz.func130, Tryz.ntmps130
 go_wp2_with fail
 refine ha.mono ?_
 clear ha
 rintro en w2 ⟨rfl, b2⟩
 have B2 := hide b2
 clear b2
 go_wp2_with fail
 go_ret
 exact ⟨by rw [Qa hS, if_neg (Qa HK)]; rfl, (Qa B2).alloc (Qa B2).size _⟩
end
section
open Go.RowKit
theorem Qrr {a b : Txt} : ((⟨a.toArray⟩ : ByteArray) = ⟨b.toArray⟩) ↔ a = b := ⟨fun h => by have := congrArg (fun x => x.data.toList) h; simpa using this, fun h => by rw [h]⟩
theorem Qfb {e : Nat} {l : List Tok} {s : Txt} (h : sgn e l = s) (hs : s ≠ []) : ∃ t l', l = t :: l' ∧ t.kind = 4 ∧ t.text = s := by
 cases l with
 | nil =>
  simp [sgn, ahd] at h
  exact absurd h.symm (fun e => hs (by simpa using e))
 | cons t l' =>
  refine ⟨t, l', rfl, ?_⟩
  unfold sgn at h
  split at h
  · next hk => exact ⟨hk, h⟩
  · exact absurd h.symm hs
theorem Qef {e : Nat} {l : List Tok} {k : Int} (h : (ahd e 0 l).kind = k) (hk : k ≠ 0) : ∃ t l', l = t :: l' ∧ t.kind = k := by
 cases l with
 | nil => exact absurd h (fun e => hk (by simpa [ahd] using e.symm))
 | cons t l' => exact ⟨t, l', rfl, h⟩

theorem Qde {rb e : Nat} {w : World} {l : List Tok} {it dp : Nat} (h : Rd rb e w l it dp) (s : Txt) (hs : s ≠ []) :
  Calls Tryz.prog 157 #[.pointer (some ⟨rb, 0, none⟩), str s] w fun en w' => en = .returned (.bool (decide (sgn e l = s))) ∧ Rd rb e w' (if sgn e l = s then l.drop 1 else l) it dp ∧ Kp rb w w' := by
 have hg := Qge h
 by_cases hS : sgn e l = s
 ·
  obtain ⟨t, l', rfl, _⟩ := Qfb hS hs
  have HT : Hid (∀ v, Below w.heap.size w v → Calls Tryz.prog 147 #[.pointer (some ⟨rb, 0, none⟩)] v fun en w' => en = .returned (tokV t) ∧ Rd rb e w' l' it dp ∧ Kp rb v w') := fun v hv => Qdf (h.later hv)
  rw [hS] at hg
  rw [if_pos hS, decide_eq_true hS]
  clear h hS
  go_enter Tryz.func157, Tryz.ntmps157
  go_wp2_with fail
  refine hg.mono ?_
  clear hg
  rintro en w2 ⟨rfl, b2⟩
  have ht := Qa HT w2 b2
  have B2 := hide b2
  clear b2 HT
  go_wp2_with fail
  refine ht.mono ?_
  clear ht
  rintro en w3 ⟨rfl, hR3, k3⟩
  have H3 := hide (Ya hR3 ((Kp.of_below (Qa B2)).trans k3))
  clear hR3 k3
  go_wp2_with fail
  go_ret
  exact ⟨rfl, Qa H3⟩
 rw [if_neg hS, decide_eq_false hS]
 have hne : (sgn e l == s) = false := by simpa using hS
 have HH := hide h
 generalize sgn e l = g at hg hne
 clear h hS
 go_enter Tryz.func157, Tryz.ntmps157
 go_wp2_with fail
 refine hg.mono ?_
 clear hg
 rintro en w2 ⟨rfl, b2⟩
 have B2 := hide b2
 clear b2
 go_wp2_with fail
 go_ret
 exact ⟨rfl, (Qa HH).later (Qa B2), Kp.of_below (Qa B2)⟩

theorem Qfe {rb e : Nat} {w : World} {l : List Tok} {it dp : Nat} (h : Rd rb e w l it dp) (s : Txt) (hs : s ≠ []) :
  Calls Tryz.prog 159 #[.pointer (some ⟨rb, 0, none⟩), str s] w fun en w' => Ans rb e dp w (fun _ v _ => v = .tuple #[]) (want e s l it) en w' := by
 have hk := Qde h s hs
 by_cases hS : sgn e l = s
 ·
  have E : want e s l it = .ok () (l.drop 1) it := if_pos hS
  rw [E]
  rw [if_pos hS, decide_eq_true hS] at hk
  clear h hS E
  go_enter Tryz.func159, Tryz.ntmps159
  go_wp2_with fail
  refine hk.mono ?_
  clear hk
  rintro en w2 ⟨rfl, hR, k2⟩
  have H2 := hide (Ya hR k2)
  clear hR k2
  go_wp2_with fail
  go_end0
  exact ⟨_, rfl, rfl, Qa H2⟩
 have E : want e s l it = .bad 10 (ahd e 0 l).at_ l := if_neg hS
 rw [E]
 rw [if_neg hS, decide_eq_false hS] at hk
 clear h hS E
 go_enter Tryz.func159, Tryz.ntmps159
 go_wp2_with fail
 refine hk.mono ?_
 clear hk
 rintro en w2 ⟨rfl, hR, k2⟩
 have hr := Qcm hR 10
 have H2 := hide k2
 clear hR k2
 go_wp2_with fail
 refine hr.mono ?_
 clear hr
 rintro en w3 ⟨rfl, b3⟩
 have H3 := hide ((Qa H2).trans (Kp.of_below b3))
 clear b3
 go_wp2_with fail
 exact ⟨rfl, rfl, Qa H3⟩

theorem Qs {rb e : Nat} {w : World} {l : List Tok} {it dp : Nat} (h : Rd rb e w l it dp) :
  Calls Tryz.prog 150 #[.pointer (some ⟨rb, 0, none⟩)] w fun en w' => Ans rb e dp w (fun _ v x => v = str x) (nmQ e l it) en w' := by
 have ha := Qbc h 0
 unfold tokV at ha
 by_cases hS : (ahd e 0 l).kind = 1
 ·
  have E : nmQ e l it = .ok (ahd e 0 l).text (l.drop 1) it := if_pos hS
  rw [E]
  obtain ⟨t, l', rfl, hk⟩ := Qef hS (by decide)
  have HT : Hid (∀ v, Below w.heap.size w v → Calls Tryz.prog 147 #[.pointer (some ⟨rb, 0, none⟩)] v fun en w' => en = .returned (.agg #[.int .i64 t.kind, str t.text, .int .i64 t.num, .int .i64 (t.at_ : Int)]) ∧ Rd rb e w' l' it dp ∧ Kp rb v w') := fun v hv => Qdf (h.later hv)
  have e0 : ahd e 0 (t :: l') = t := rfl
  rw [e0] at ha
  have hk2 : (t.kind != 1) = false := by simpa using hk
  rw [e0]
  clear h hS E hk e0
  go_enter Tryz.func150, Tryz.ntmps150
  go_wp2_with fail
  refine ha.mono ?_
  clear ha
  rintro en w2 ⟨rfl, b2⟩
  have ht := Qa HT w2 b2
  have B2 := hide b2
  clear b2 HT
  go_wp2_with fail
  rename_i hK
  refine hK _ _ ?_
  clear hK
  go_wp2_with fail
  refine ht.mono ?_
  clear ht
  rintro en w3 ⟨rfl, hR3, k3⟩
  have H3 := hide (Ya hR3 ((Kp.of_below (Qa B2)).trans k3))
  clear hR3 k3
  go_wp2_with fail
  rename_i hK
  refine hK _ _ ?_
  clear hK
  go_wp2_with fail
  go_ret
  exact ⟨_, rfl, rfl, Qa H3⟩
 have E : nmQ e l it = .bad 10 (ahd e 0 l).at_ l := if_neg hS
 rw [E]
 have HR : Hid (∀ v, Below w.heap.size w v → Calls Tryz.prog 129 #[.pointer (some ⟨rb, 0, none⟩), .int .i64 10] v fun en w' => en = .panicked [{ v := stopV 10 (ahd e 0 l).at_, recovered := false }] ∧ Below v.heap.size v w') := fun v hv => Qcm (h.later hv) 10
 generalize ahd e 0 l = t at ha hS HR
 have hk2 : (t.kind != 1) = true := by simpa using hS
 clear h hS E
 go_enter Tryz.func150, Tryz.ntmps150
 go_wp2_with fail
 refine ha.mono ?_
 clear ha
 rintro en w2 ⟨rfl, b2⟩
 have hr := Qa HR w2 b2
 have B2 := hide b2
 clear b2 HR
 go_wp2_with fail
 rename_i hK
 refine hK _ _ ?_
 clear hK
 go_wp2_with fail
 refine hr.mono ?_
 clear hr
 rintro en w3 ⟨rfl, b3⟩
 have H3 := hide ((Qa B2).trans (b3.mono (Qa B2).size))
 clear b3
 go_wp2_with fail
 exact ⟨rfl, rfl, Kp.of_below (Qa H3)⟩
end
end Go.Proofs.YtjebglmpopijhaaGreatDoor
namespace Go.Proofs
open Go.Shelf
def Tryz.lays110_ren : Go.Shelf.Ren := ⟨fun | 110 => 179 | 109 => 197 | n => n, fun | 31 => 66 | 9 => 9 | 4 => 4 | 3 => 3 | 0 => 0 | n => n, fun | n => n⟩
theorem Tryz.lays110 : Go.Proofs.Lays.n110 Tryz.prog Tryz.lays110_ren := {
  mixed := by kernel_rfl
  f109 := Tryz.func197.trans (congrArg some (by kernel_rfl))
  f110 := Tryz.func179.trans (congrArg some (by kernel_rfl))
  t0 := Tryz.underlying0
  a0 := Tryz.isAgg0
  z0 := Tryz.sizeOf0
  v0 := Tryz.zeroValue0
  t3 := Tryz.underlying3
  a3 := Tryz.isAgg3
  z3 := Tryz.sizeOf3
  v3 := Tryz.zeroValue3
  t4 := Tryz.underlying4
  a4 := Tryz.isAgg4
  z4 := Tryz.sizeOf4
  v4 := Tryz.zeroValue4
  t9 := Tryz.underlying9
  a9 := Tryz.isAgg9
  z9 := Tryz.sizeOf9
  v9 := Tryz.zeroValue9
  t31 := Tryz.underlying66
  a31 := Tryz.isAgg66
  z31 := Tryz.sizeOf66
  v31 := Tryz.zeroValue66 }
open Go.Lib in
theorem Tryz.slices_Contains_string (b off n c : Nat) (zs : List ByteArray) (x : ByteArray) (w : World) (hz : n ≤ zs.length) (hbig : n ≤ 9223372036854775807) (hc : ∀ j, j < zs.length → w.cell? ⟨b, off + j, none⟩ = some (.string (zs.getD j ByteArray.empty))) :
    Calls Tryz.prog 179 #[.slice (some ⟨b, off, none⟩) n c, .string x] w fun e w' => e = .returned (.bool (Lib.containsS (zs.take n) x)) ∧ w' = w := Any.slices_Contains_string Tryz.lays110 b off n c zs x w hz hbig hc
end Go.Proofs
