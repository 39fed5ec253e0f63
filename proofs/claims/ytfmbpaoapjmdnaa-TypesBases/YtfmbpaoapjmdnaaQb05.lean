/- syn: a program in memory. The plain reading: how many items have begun; what is taken. syn: comp, what it stores. syn: a component with bases. syn: a component without bases. syn: a Lit that is a not. syn: a Lit that is an atom. syn: a Lit that is a comparison. syn: a Lit of any kind; the clause. A region that leaves its order open: where two operations are ready, both ways. syn: item, what it comes to; too many items. syn: item, one of the types. syn: item, one of the decls. syn: item, one of the inits. syn: item, one of the clauses. syn: a component put in its place. syn: item, one of the comps. syn: items up to an end. syn: what a wrong place carries is caught. syn: read. What the listed variables and the world's shape give the walks of lex; the wrap that keeps both; the law's own probe. What a law of lex finds in the world; the law's own probe answers true. Walk of the law that tokens rise. syn: Parse. Lists in memory that are held against each other. slices.Equal at slices.Equal[[]vestry/api.Field,vestry/api.Field]. slices.Equal at slices.Equal[[]string,string]. slices.EqualFunc at Expr. slices.EqualFunc at Lit. slices.EqualFunc at Ctor. slices.EqualFunc at TypeDecl. slices.EqualFunc at Decl. slices.EqualFunc at Comp. slices.EqualFunc at Init. -/
import Derived.Test.YtfmbpaoapjmdnaaQb04
import Derived.Test.YtfmbpaoapjmdnaaQb03
import Derived.Deep.WholeRow
import Derived.Defers
import Derived.Recover
import Derived.Laws.Pointers
import Derived.Test.YtfmbpaoapjmdnaaRows
import Derived.ProofKit
import Derived.LaidMore
import Derived.OpenShut
import Derived.Stop.Joined
import Derived.Stop.LaidErr
import Derived.Lib.LaidTab
import Derived.HandedShaped
set_option maxRecDepth 100000
set_option maxHeartbeats 32000000
namespace Go.Proofs.Ytfmbpaoapjmdnaa
section
open Go.RowKit Go.Maps
def PTy : PS Typ := fun S w cs x => ∃ xa xn xc, cs = [str x.name, str x.sub, .slice xa xn xc, .int .i64 x.at_] ∧ LsAt PC 2 S w (.slice xa xn xc) x.ctors
theorem Qbn : PSok PTy where
 mono := fun _ _ _ _ _ ⟨xa, xn, xc, h1, h2⟩ hS => ⟨xa, xn, xc, h1, h2.mono Qcd hS⟩
 same := fun _ _ _ _ _ ⟨xa, xn, xc, h1, h2⟩ hs hb => ⟨xa, xn, xc, h1, h2.same Qcd hs hb⟩
def PDc : PS Dcl := fun S w cs x => ∃ xa xn xc, cs = [str x.name, .slice xa xn xc, .bool x.input, .bool x.output, .int .i64 x.at_] ∧ LsAt PF 2 S w (.slice xa xn xc) x.cols
theorem Qbr : PSok PDc where
 mono := fun _ _ _ _ _ ⟨xa, xn, xc, h1, h2⟩ hS => ⟨xa, xn, xc, h1, h2.mono Qaz hS⟩
 same := fun _ _ _ _ _ ⟨xa, xn, xc, h1, h2⟩ hs hb => ⟨xa, xn, xc, h1, h2.same Qaz hs hb⟩
def PIn : PS Ini := fun _ _ cs x => cs = [str x.name, str x.comp, .int .i64 x.at_]
theorem Qbx : PSok PIn where
 mono := fun _ _ _ _ _ h _ => h
 same := fun _ _ _ _ _ h _ _ => h
def PCl : PS Cls := fun S w cs x => ∃ aa an ac ba bn bc, cs = [str x.head.rel, .slice aa an ac, .int .i64 x.head.at_, .slice ba bn bc, .int .i64 x.at_] ∧ LsAt PE 5 S w (.slice aa an ac) x.head.args ∧ LsAt PLt 16 S w (.slice ba bn bc) x.body
theorem Qbq : PSok PCl where
 mono := fun _ _ _ _ _ ⟨aa, an, ac, ba, bn, bc, h1, h2, h3⟩ hS => ⟨aa, an, ac, ba, bn, bc, h1, h2.mono Qae hS, h3.mono Qay hS⟩
 same := fun _ _ _ _ _ ⟨aa, an, ac, ba, bn, bc, h1, h2, h3⟩ hs hb => ⟨aa, an, ac, ba, bn, bc, h1, h2.same Qae hs hb, h3.same Qay hs hb⟩
def PSt : PS Txt := fun _ _ cs x => cs = [str x]
theorem Qbm : PSok PSt where
 mono := fun _ _ _ _ _ h _ => h
 same := fun _ _ _ _ _ h _ _ => h
abbrev Cp := Txt × List Txt × Pg × Int
inductive PgS (S : Nat → Prop) (w : World) : List Value → Pg → Prop
 | mk (ts : List Typ) (ds : List Dcl) (cs : List Cp) (is : List Ini) (ls : List Cls) (vt vd vi vl : Value) (ao : Option Addr) (cap : Nat) (css : List (List Value)) (vb : Nat → Value) (bd : Nat → List Value)
   (hT : LsAt PTy 4 S w vt ts) (hD : LsAt PDc 5 S w vd ds) (hI : LsAt PIn 3 S w vi is) (hL : LsAt PCl 5 S w vl ls)
   (h1 : cs.length ≤ cap) (h2 : cap ≤ maxLen) (h3 : css.length = cs.length)
   (h4 : ∀ (j : Nat) (x : Cp), cs[j]? = some x → css[j]? = some (str x.1 :: vb j :: (bd j ++ [.int .i64 x.2.2.2])) ∧ (bd j).length = 5 ∧ LsAt PSt 1 S w (vb j) x.2.1)
   (h6 : ∀ (j : Nat) (x : Cp), cs[j]? = some x → PgS S w (bd j) x.2.2.1)
   (h5 : cs ≠ [] → ∃ b, ao = some ⟨b, 0, none⟩ ∧ S b ∧ b < w.heap.size ∧ ∀ j c, css.flatten[j]? = some c → w.cell? ⟨b, j, none⟩ = some c) :
   PgS S w [vt, vd, .slice ao cs.length cap, vi, vl] (.mk ts ds cs is ls)
theorem Qar : PSok (α := Pg) (fun S w cs x => PgS S w cs x) where
 mono := fun S S' w cs x h hS => by
  induction h with
  | mk ts ds cs is ls vt vd vi vl ao cap css vb bd hT hD hI hL h1 h2 h3 h4 h6 h5 ih =>
   refine .mk ts ds cs is ls vt vd vi vl ao cap css vb bd (hT.mono Qbn hS) (hD.mono Qbr hS) (hI.mono Qbx hS) (hL.mono Qbq hS) h1 h2 h3 (fun j x hj => ⟨(h4 j x hj).1, (h4 j x hj).2.1, (h4 j x hj).2.2.mono Qbm hS⟩) ih (fun hn => ?_)
   obtain ⟨b, e1, e2, e3, e4⟩ := h5 hn
   exact ⟨b, e1, hS b e3 e2, e3, e4⟩
 same := fun S w w' cs x h hs hb => by
  induction h with
  | mk ts ds cs is ls vt vd vi vl ao cap css vb bd hT hD hI hL h1 h2 h3 h4 h6 h5 ih =>
   refine .mk ts ds cs is ls vt vd vi vl ao cap css vb bd (hT.same Qbn hs hb) (hD.same Qbr hs hb) (hI.same Qbx hs hb) (hL.same Qbq hs hb) h1 h2 h3 (fun j x hj => ⟨(h4 j x hj).1, (h4 j x hj).2.1, (h4 j x hj).2.2.same Qbm hs hb⟩) ih (fun hn => ?_)
   obtain ⟨b, e1, e2, e3, e4⟩ := h5 hn
   refine ⟨b, e1, e2, by omega, fun j c hj => ?_⟩
   have := e4 j c hj
   simp only [World.cell?] at this ⊢
   rw [hb b e2 e3]; exact this
def PCo : PS Cp := fun S w cs x => ∃ vb bd, cs = str x.1 :: vb :: (bd ++ [.int .i64 x.2.2.2]) ∧ bd.length = 5 ∧ LsAt PSt 1 S w vb x.2.1 ∧ PgS S w bd x.2.2.1
theorem Qce : PSok PCo where
 mono := fun _ _ _ _ _ ⟨vb, bd, h1, h2, h3, h4⟩ hS => ⟨vb, bd, h1, h2, h3.mono Qbm hS, Qar.mono _ _ _ _ _ h4 hS⟩
 same := fun _ _ _ _ _ ⟨vb, bd, h1, h2, h3, h4⟩ hs hb => ⟨vb, bd, h1, h2, h3.same Qbm hs hb, Qar.same _ _ _ _ _ h4 hs hb⟩
theorem Qrf {S : Nat → Prop} {w : World} {ts : List Typ} {ds : List Dcl} {cs : List Cp} {is : List Ini} {ls : List Cls} {vt vd vc vi vl : Value} (hT : LsAt PTy 4 S w vt ts) (hD : LsAt PDc 5 S w vd ds) (hC : LsAt PCo 8 S w vc cs) (hI : LsAt PIn 3 S w vi is) (hL : LsAt PCl 5 S w vl ls) : PgS S w [vt, vd, vc, vi, vl] (.mk ts ds cs is ls) := by
 obtain ⟨ao, cap, css, rfl, h1, h2, h3, h5⟩ := hC
 have hch : ∀ j : Nat, ∃ q : Value × List Value, ∀ x : Cp, cs[j]? = some x → css[j]? = some (str x.1 :: q.1 :: (q.2 ++ [.int .i64 x.2.2.2])) ∧ q.2.length = 5 ∧ LsAt PSt 1 S w q.1 x.2.1 ∧ PgS S w q.2 x.2.2.1 := fun j => by
  by_cases hj : j < cs.length
  ·
   have hj2 : j < css.length := by rw [h3.1]; exact hj
   obtain ⟨_, vb, bd, e1, e2, e3, e4⟩ := h3.2 j cs[j] css[j] (List.getElem?_eq_getElem hj) (List.getElem?_eq_getElem hj2)
   refine ⟨(vb, bd), fun x hx => ?_⟩
   rw [List.getElem?_eq_getElem hj] at hx
   cases hx
   exact ⟨by rw [List.getElem?_eq_getElem hj2, e1], e2, e3, e4⟩
  · exact ⟨(.int .i64 0, []), fun x hx => absurd (List.getElem?_eq_some_iff.1 hx).1 hj⟩
 obtain ⟨q, hq⟩ := Classical.axiomOfChoice hch
 exact .mk ts ds cs is ls vt vd vi vl ao cap css (fun j => (q j).1) (fun j => (q j).2) hT hD hI hL h1 h2 h3.1 (fun j x hx => ⟨(hq j x hx).1, (hq j x hx).2.1, (hq j x hx).2.2.1⟩) (fun j x hx => (hq j x hx).2.2.2) h5
theorem PgS.cells {S : Nat → Prop} {w : World} {v : List Value} {p : Pg} (h : PgS S w v p) : ∃ vt vd vc vi vl, v = [vt, vd, vc, vi, vl] ∧ LsAt PTy 4 S w vt p.types ∧ LsAt PDc 5 S w vd p.decls ∧ LsAt PCo 8 S w vc p.comps ∧ LsAt PIn 3 S w vi p.inits ∧ LsAt PCl 5 S w vl p.clauses := by
 cases h with
 | mk ts ds cs is ls vt vd vi vl ao cap css vb bd hT hD hI hL h1 h2 h3 h4 h6 h5 =>
  refine ⟨_, _, _, _, _, rfl, hT, hD, ⟨ao, cap, css, rfl, h1, h2, ⟨h3, fun j x c hx hc => ?_⟩, h5⟩, hI, hL⟩
  obtain ⟨e1, e2, e3⟩ := h4 j x hx
  rw [e1] at hc
  cases hc
  exact ⟨by simp [e2], vb j, bd j, rfl, e2, e3, h6 j x hx⟩

def Row {α : Type} (p : PS α) (k : Nat) (T : TypeId) (base : Nat) (S : Nat → Prop) (w : World) (sl : Value) (acc : List α) : Prop := ∃ css, w.ownsRow base T k sl acc.length css.flatten ∧ All p k S w css acc
section
variable {α : Type} {p : PS α} {k : Nat} {T : TypeId} {base : Nat}
theorem Row.nil (S : Nat → Prop) (w : World) : Row p k T base S w (.slice none 0 0) [] := ⟨[], World.ownsRow_nil _ _ _ _, ⟨rfl, fun j x cs hx => by simp at hx⟩⟩
theorem Row.lt {S : Nat → Prop} {w : World} {sl : Value} {acc : List α} (h : Row p k T base S w sl acc) : ∀ b, some b = sl.ownBlock → base ≤ b ∧ b < w.heap.size := fun b e => by
 obtain ⟨css, ho, _⟩ := h
 exact World.ownsRow.lt ho b e.symm
theorem Row.slice {S : Nat → Prop} {w : World} {sl : Value} {acc : List α} (h : Row p k T base S w sl acc) : ∃ a c, sl = .slice a acc.length c := by
 obtain ⟨css, ho, _⟩ := h
 rcases ho.2 with ⟨e, e2⟩ | ⟨g, cap, cur, e, _⟩
 · exact ⟨none, 0, by rw [e, e2]⟩
 · exact ⟨_, _, e⟩
theorem Row.move (hp : PSok p) {S S' : Nat → Prop} {w w' : World} {sl : Value} {acc : List α} (h : Row p k T base S w sl acc) (hs : w.heap.size ≤ w'.heap.size) (hb : ∀ b, base ≤ b → b < w.heap.size → (S b ∨ some b = sl.ownBlock) → w'.heap[b]? = w.heap[b]?) (hB : ∀ b, S b → base ≤ b) (hS : ∀ b, b < w.heap.size → S b → S' b) : Row p k T base S' w' sl acc := by
 obtain ⟨css, ho, ha⟩ := h
 refine ⟨css, ⟨ho.1, ?_⟩, ?_⟩
 ·
  rcases ho.2 with e | ⟨g, cap, cur, e1, e2, e3, e4⟩
  · exact .inl e
  · exact .inr ⟨g, cap, cur, e1, e2, (hb g e2 (Qab e3) (.inr (by rw [e1]; rfl))).trans e3, e4⟩
 have h2 := (ha.mono hp (fun b hl hs => (⟨hs, hl⟩ : S b ∧ b < w.heap.size))).same hp hs (fun b hs hl => hb b (hB b hs.1) hl (.inl hs.1))
 exact h2.mono hp (fun b _ hs => hS b hs.2 hs.1)
theorem Row.ls {S : Nat → Prop} {w : World} {sl : Value} {acc : List α} (hp : PSok p) (h : Row p k T base S w sl acc) (hS : ∀ b, S b → base ≤ b) : LsAt p k (fun b => base ≤ b) w sl acc := by
 obtain ⟨css, ho, ha⟩ := h
 exact LsAt.of ho (ha.mono hp (fun b _ hs => hS b hs))
theorem Row.app (hp : PSok p) {ST : TypeId} {i0 : TypeInfo} {z : Value} {by_ : Nat} (ht : Try.prog.underlying ST = some (.slice T)) (hi : Try.prog.info? T = some i0) (hz : i0.zero = some z) (hsz : i0.size = k) (hby : i0.bytes = by_) (hzc : z.cells.size = k) (hk : 0 < k) (hb6 : by_ ≤ 1000)
  {S : Nat → Prop} {w2 : World} {sl : Value} {acc : List α} (h : Row p k T base S w2 sl acc) (hS : ∀ b, S b → some b ≠ sl.ownBlock) {x : α} {cs : List Value} (hl : cs.length = k) (h1 : ∀ c ∈ cs, c.oneCell' = true) (hx : p S w2 cs x) (hbase : base ≤ w2.heap.size) (hf : acc.length ≤ 65536) (zb : Nat) (hzb : w2.heap[zb]? = some (.cells cs.toArray T (0, 0))) :
  ∃ r w8, (Builtin.append_ #[ST, ST] ST #[sl, .slice (some ⟨zb, 0, none⟩) 1 1]).run Try.prog w2 = .ok r w8 ∧ w2.grownBy w8 sl.ownBlock ∧ (r.ownBlock = sl.ownBlock ∨ r.ownBlock = some w2.heap.size) ∧ (∃ g c, r = .slice (some ⟨g, 0, none⟩) (acc.length + 1) c) ∧ Row p k T base S w8 r (acc ++ [x]) := by
 obtain ⟨css, ho, ha⟩ := h
 obtain ⟨r, w8, hr, o8, g8, _, a8⟩ := run_append_own_at (P := Try.prog) w2 base ST ST T i0 z k by_ ht hi hz hsz hby hzc hk sl acc.length css.flatten ho ⟨zb, 0, none⟩ 1 1 cs (by rw [hl, Nat.one_mul]) (fun j u hj => by
  have e1 : (⟨zb, 0, none⟩ : Addr).add j = ⟨zb, j, none⟩ := by cases j <;> simp [Addr.add]
  rw [e1, Qaf hzb]
  simpa using hj) h1 (by unfold maxLen; omega) (by
  have h3 : acc.length + 1 ≤ 65537 := by omega
  have := Nat.mul_le_mul h3 hb6
  omega) hbase
 refine ⟨r, w8, hr, g8, a8, ?_, css ++ [cs], by rw [List.length_append]; simpa using o8, ?_⟩
 ·
  rcases o8.2 with ⟨_, e⟩ | ⟨g, cap, cur, e, _⟩
  · omega
  · exact ⟨_, _, e⟩
 have hsm : ∀ b, S b → b < w2.heap.size → w8.heap[b]? = w2.heap[b]? := fun b hs hlt => g8.block b hlt (hS b hs)
 exact (ha.same hp g8.size hsm).snoc hl (hp.same _ _ _ _ _ hx g8.size hsm)
end
def P5S (base : Nat) (v0 v1 v2 v3 v4 : Value) (b : Nat) : Prop := base ≤ b ∧ some b ≠ v0.ownBlock ∧ some b ≠ v1.ownBlock ∧ some b ≠ v2.ownBlock ∧ some b ≠ v3.ownBlock ∧ some b ≠ v4.ownBlock
def Apt (u v : Value) : Prop := ∀ b, some b = u.ownBlock → some b ≠ v.ownBlock
theorem Apt.symm {u v : Value} (h : Apt u v) : Apt v u := fun b e1 e2 => h b e2 e1
structure P5 (pb base : Nat) (w : World) (v0 v1 v2 v3 v4 : Value) (p : Pg) : Prop where
 box : w.heap[pb]? = some (.cells #[v0, v1, v2, v3, v4] 28 (0, 0))
 lt : pb < base
 r0 : Row PTy 4 68 base (P5S base v0 v1 v2 v3 v4) w v0 p.types
 r1 : Row PDc 5 43 base (P5S base v0 v1 v2 v3 v4) w v1 p.decls
 r2 : Row PCo 8 40 base (P5S base v0 v1 v2 v3 v4) w v2 p.comps
 r3 : Row PIn 3 45 base (P5S base v0 v1 v2 v3 v4) w v3 p.inits
 r4 : Row PCl 5 78 base (P5S base v0 v1 v2 v3 v4) w v4 p.clauses
 a01 : Apt v0 v1
 a02 : Apt v0 v2
 a03 : Apt v0 v3
 a04 : Apt v0 v4
 a12 : Apt v1 v2
 a13 : Apt v1 v3
 a14 : Apt v1 v4
 a23 : Apt v2 v3
 a24 : Apt v2 v4
 a34 : Apt v3 v4
structure KB (rb pb base : Nat) (w w' : World) : Prop where
 os : w'.os = w.os
 tape : w'.tape = w.tape
 output : w'.output = w.output
 size : w.heap.size ≤ w'.heap.size
 block : ∀ k, k < base → k ≠ rb → k ≠ pb → w'.heap[k]? = w.heap[k]?
theorem KB.trans {rb pb base : Nat} {a b c : World} (h : KB rb pb base a b) (k : KB rb pb base b c) : KB rb pb base a c := ⟨k.os.trans h.os, k.tape.trans h.tape, k.output.trans h.output, Nat.le_trans h.size k.size, fun i hi hn hm => (k.block i hi hn hm).trans (h.block i hi hn hm)⟩
theorem P5.kp {rb pb base : Nat} {w w' : World} {v0 v1 v2 v3 v4 : Value} {p : Pg} (h : P5 pb base w v0 v1 v2 v3 v4 p) (k : Kp rb w w') (hr : rb < pb) : P5 pb base w' v0 v1 v2 v3 v4 p := by
 have hlt := h.lt
 refine ⟨k.keep h.box (by omega), h.lt, ?_, ?_, ?_, ?_, ?_, h.a01, h.a02, h.a03, h.a04, h.a12, h.a13, h.a14, h.a23, h.a24, h.a34⟩
 · exact h.r0.move Qbn k.size (fun b hb hl _ => k.block b hl (by omega)) (fun b hb => hb.1) (fun b _ hs => hs)
 · exact h.r1.move Qbr k.size (fun b hb hl _ => k.block b hl (by omega)) (fun b hb => hb.1) (fun b _ hs => hs)
 · exact h.r2.move Qce k.size (fun b hb hl _ => k.block b hl (by omega)) (fun b hb => hb.1) (fun b _ hs => hs)
 · exact h.r3.move Qbx k.size (fun b hb hl _ => k.block b hl (by omega)) (fun b hb => hb.1) (fun b _ hs => hs)
 · exact h.r4.move Qbq k.size (fun b hb hl _ => k.block b hl (by omega)) (fun b hb => hb.1) (fun b _ hs => hs)
theorem info50 : ∃ i0 : TypeInfo, Try.prog.info? 68 = some i0 ∧ i0.zero = some (.agg #[.string ⟨#[]⟩, .string ⟨#[]⟩, .slice none 0 0, .int .i64 0]) ∧ i0.size = 4 ∧ i0.bytes = 64 := by
 have h : (Try.prog.info? 68).map (fun i => (i.zero, i.size, i.bytes)) = some (some (.agg #[.string ⟨#[]⟩, .string ⟨#[]⟩, .slice none 0 0, .int .i64 0]), 4, 64) := by kernel_rfl
 obtain ⟨i0, hi, hi3⟩ := Option.map_eq_some_iff.1 h
 simp only [Prod.mk.injEq] at hi3
 exact ⟨i0, hi, hi3⟩
theorem info51 : ∃ i0 : TypeInfo, Try.prog.info? 43 = some i0 ∧ i0.zero = some (.agg #[.string ⟨#[]⟩, .slice none 0 0, .bool false, .bool false, .int .i64 0]) ∧ i0.size = 5 ∧ i0.bytes = 56 := by
 have h : (Try.prog.info? 43).map (fun i => (i.zero, i.size, i.bytes)) = some (some (.agg #[.string ⟨#[]⟩, .slice none 0 0, .bool false, .bool false, .int .i64 0]), 5, 56) := by kernel_rfl
 obtain ⟨i0, hi, hi3⟩ := Option.map_eq_some_iff.1 h
 simp only [Prod.mk.injEq] at hi3
 exact ⟨i0, hi, hi3⟩
theorem info52 : ∃ i0 : TypeInfo, Try.prog.info? 40 = some i0 ∧ i0.zero = some (.agg #[.string ⟨#[]⟩, .slice none 0 0, .slice none 0 0, .slice none 0 0, .slice none 0 0, .slice none 0 0, .slice none 0 0, .int .i64 0]) ∧ i0.size = 8 ∧ i0.bytes = 168 := by
 have h : (Try.prog.info? 40).map (fun i => (i.zero, i.size, i.bytes)) = some (some (.agg #[.string ⟨#[]⟩, .slice none 0 0, .slice none 0 0, .slice none 0 0, .slice none 0 0, .slice none 0 0, .slice none 0 0, .int .i64 0]), 8, 168) := by kernel_rfl
 obtain ⟨i0, hi, hi3⟩ := Option.map_eq_some_iff.1 h
 simp only [Prod.mk.injEq] at hi3
 exact ⟨i0, hi, hi3⟩
theorem info53 : ∃ i0 : TypeInfo, Try.prog.info? 45 = some i0 ∧ i0.zero = some (.agg #[.string ⟨#[]⟩, .string ⟨#[]⟩, .int .i64 0]) ∧ i0.size = 3 ∧ i0.bytes = 40 := by
 have h : (Try.prog.info? 45).map (fun i => (i.zero, i.size, i.bytes)) = some (some (.agg #[.string ⟨#[]⟩, .string ⟨#[]⟩, .int .i64 0]), 3, 40) := by kernel_rfl
 obtain ⟨i0, hi, hi3⟩ := Option.map_eq_some_iff.1 h
 simp only [Prod.mk.injEq] at hi3
 exact ⟨i0, hi, hi3⟩
theorem info54 : ∃ i0 : TypeInfo, Try.prog.info? 78 = some i0 ∧ i0.zero = some (.agg #[.string ⟨#[]⟩, .slice none 0 0, .int .i64 0, .slice none 0 0, .int .i64 0]) ∧ i0.size = 5 ∧ i0.bytes = 80 := by
 have h : (Try.prog.info? 78).map (fun i => (i.zero, i.size, i.bytes)) = some (some (.agg #[.string ⟨#[]⟩, .slice none 0 0, .int .i64 0, .slice none 0 0, .int .i64 0]), 5, 80) := by kernel_rfl
 obtain ⟨i0, hi, hi3⟩ := Option.map_eq_some_iff.1 h
 simp only [Prod.mk.injEq] at hi3
 exact ⟨i0, hi, hi3⟩
end
section
/-- No item begins. -/
def IK {α : Type} (p : Pr α) : Prop := ∀ l i x l' i', p l i = .ok x l' i' → i' = i
section
variable {e : Nat}
/-- Something is taken. -/
def Sst {α : Type} (p : Pr α) : Prop := ∀ l i x l' i', p l i = .ok x l' i' → l'.length < l.length
/-- A component, where d more may be begun. -/
def compC (e : Nat) : Nat → Pr (Txt × List Txt × Pg × Int)
 | 0 => refuse e 4
 | d + 1 => compB e (progD e d false)
def Gr {α : Type} (p : Pr α) : Prop := ∀ l i x l' i', p l i = .ok x l' i' → l'.length ≤ l.length ∧ i ≤ i' ∧ (i ≤ 96 → i' ≤ 96)
def GrS {α : Type} (p : Pr α) : Prop := ∀ l i x l' i', p l i = .ok x l' i' → l'.length < l.length ∧ i ≤ i' ∧ (i ≤ 96 → i' ≤ 96)
/-- The lists of a program are no longer than n. -/
def Few (p : Pg) (n : Nat) : Prop := p.types.length ≤ n ∧ p.decls.length ≤ n ∧ p.comps.length ≤ n ∧ p.inits.length ≤ n ∧ p.clauses.length ≤ n
end
end
section
open Go.RowKit Go.Maps
abbrev coZ : Obj := .cells #[.string ⟨#[]⟩, .slice none 0 0, .slice none 0 0, .slice none 0 0, .slice none 0 0, .slice none 0 0, .slice none 0 0, .int .i64 0] 40
theorem cl8 {w : World} {b : Nat} {T : TypeId} {v0 v1 v2 v3 v4 v5 v6 v7 : Value} (h : w.heap[b]? = some (.cells #[v0, v1, v2, v3, v4, v5, v6, v7] T (0, 0))) :
  w.cell? ⟨b, 0, none⟩ = some v0 ∧ w.cell? ⟨b, 1, none⟩ = some v1 ∧ w.cell? ⟨b, 2, none⟩ = some v2 ∧ w.cell? ⟨b, 3, none⟩ = some v3 ∧ w.cell? ⟨b, 4, none⟩ = some v4 ∧ w.cell? ⟨b, 5, none⟩ = some v5 ∧ w.cell? ⟨b, 6, none⟩ = some v6 ∧ w.cell? ⟨b, 7, none⟩ = some v7 ∧ ∀ o, w.frozen? ⟨b, o, none⟩ = false :=
 ⟨(Qaf h 0).trans rfl, (Qaf h 1).trans rfl, (Qaf h 2).trans rfl, (Qaf h 3).trans rfl, (Qaf h 4).trans rfl, (Qaf h 5).trans rfl, (Qaf h 6).trans rfl, (Qaf h 7).trans rfl, fun o => by simp [World.frozen?, h]⟩
def coStore (p v : Value) : Sem Unit := Instr.storeAt 40 p v
theorem Qda (p v : Value) : Instr.storeAt 40 p v = coStore p v := rfl
def coLoad (x : Value) : Sem Value := Instr.loadAt 40 x
theorem Qdh (x : Value) : Instr.loadAt 40 x = coLoad x := rfl
theorem Qoj : (Try.prog.info? 40).map (·.size) = some 8 := by kernel_rfl
theorem LsAt.sl {α : Type} {p : PS α} {k : Nat} {S : Nat → Prop} {w : World} {v : Value} {xs : List α} (h : LsAt p k S w v xs) : ∃ a c, v = .slice a xs.length c := by
 obtain ⟨a, c, _, e, _⟩ := h
 exact ⟨a, c, e⟩
theorem Qnt {S : Nat → Prop} {w : World} {cs : List Value} {x : Cp} (h : PCo S w cs x) : ∀ c ∈ cs, c.oneCell' = true := by
 obtain ⟨vb, bd, rfl, h2, h3, h4⟩ := h
 obtain ⟨v0, v1, v2, v3, v4, rfl, g0, g1, g2, g3, g4⟩ := h4.cells
 obtain ⟨_, _, rfl⟩ := h3.sl
 obtain ⟨_, _, rfl⟩ := g0.sl
 obtain ⟨_, _, rfl⟩ := g1.sl
 obtain ⟨_, _, rfl⟩ := g2.sl
 obtain ⟨_, _, rfl⟩ := g3.sl
 obtain ⟨_, _, rfl⟩ := g4.sl
 simp [Value.oneCell', str]
def VPg (S : Nat → Prop) (w : World) (v : Value) (x : Pg) : Prop := ∃ a0 n0 c0 a1 n1 c1 a2 n2 c2 a3 n3 c3 a4 n4 c4, v = .agg #[.slice a0 n0 c0, .slice a1 n1 c1, .slice a2 n2 c2, .slice a3 n3 c3, .slice a4 n4 c4] ∧ PgS S w [.slice a0 n0 c0, .slice a1 n1 c1, .slice a2 n2 c2, .slice a3 n3 c3, .slice a4 n4 c4] x
def VCo (S : Nat → Prop) (w : World) (v : Value) (x : Cp) : Prop := ∃ ba bn bc a0 n0 c0 a1 n1 c1 a2 n2 c2 a3 n3 c3 a4 n4 c4, v = .agg #[str x.1, .slice ba bn bc, .slice a0 n0 c0, .slice a1 n1 c1, .slice a2 n2 c2, .slice a3 n3 c3, .slice a4 n4 c4, .int .i64 x.2.2.2] ∧ PCo S w [str x.1, .slice ba bn bc, .slice a0 n0 c0, .slice a1 n1 c1, .slice a2 n2 c2, .slice a3 n3 c3, .slice a4 n4 c4, .int .i64 x.2.2.2] x
end
section
open Go.RowKit Go.Maps
attribute [local go_sem ↓] Qda Qdh
end
section
open Go.RowKit Go.Maps
attribute [local go_sem ↓] Qda Qdh
end
section
open Go.RowKit Go.Maps
attribute [local go_sem ↓] Qbj Qbv
end
section
open Go.RowKit Go.Maps
attribute [local go_sem ↓] Qbj Qbv
end
section
open Go.RowKit Go.Maps
attribute [local go_sem ↓] Qbj Qbv
end
section
open Go.RowKit Go.Maps
abbrev clZ : Obj := .cells #[.string ⟨#[]⟩, .slice none 0 0, .int .i64 0, .slice none 0 0, .int .i64 0] 78
def VCl (S : Nat → Prop) (w : World) (v : Value) (x : Cls) : Prop := ∃ aa an ac ba bn bc, v = .agg #[str x.head.rel, .slice aa an ac, .int .i64 x.head.at_, .slice ba bn bc, .int .i64 x.at_] ∧ LsAt PE 5 S w (.slice aa an ac) x.head.args ∧ LsAt PLt 16 S w (.slice ba bn bc) x.body
end
section
open Go.RowKit
section
variable {P : Program} {ops : Array Oper} {md : Region.Mode} {Q : Exit → Act → World → Prop} {C : Bool → World → Prop} {m : Nat}

def lenT : List (Nat × Nat) → Nat
 | [] => 0
 | (_, _ + 3) :: r => lenT r + 2
 | _ :: r => lenT r + 1
def orderT (md : Region.Mode) (ops : Array Oper) (m : Nat) : List (Nat × Nat) → Array Bool → Bool
 | [], listed => (Region.ready md ops listed).isEmpty && listed.getD m true
 | (k, 0) :: r, listed => decide (Region.ready md ops listed = [k]) && orderT md ops m r (listed.setIfInBounds k true)
 | (k, 1) :: r, listed => ((Region.ready md ops listed).contains k && Region.free md ops listed k && decide (m ≠ k)) && orderT md ops m r (listed.setIfInBounds k true)
 | (k, 2) :: r, listed => ((Region.ready md ops listed).contains k && Region.free md ops listed k && decide (m ≠ k) && !(listed.getD m true) && depB md ops m k) && orderT md ops m r (listed.setIfInBounds k true)
 | (k, n + 3) :: r, listed => (decide (Region.ready md ops listed = [k, n]) && decide (k ≠ n) && decide (Region.ready md ops (listed.setIfInBounds k true) = [n]) && decide (Region.ready md ops (listed.setIfInBounds n true) = [k])) && orderT md ops m r ((listed.setIfInBounds k true).setIfInBounds n true)
def wpMixT (P : Program) (ops : Array Oper) (m : Nat) (C : Bool → World → Prop) (Q : Exit → Act → World → Prop) : Bool → List (Nat × Nat) → Act → World → Prop
 | _, [], a, w => C true w ∧ Q .normal a w
 | f, (k, 0) :: r, a, w => C f w ∧ wpOp P ops Q k (fun a' w' => wpMixT P ops m C Q (f || k == m) r a' w') a w
 | f, (k, 1) :: r, a, w => ∃ o v, ops[k]? = some o ∧ (∀ f w, C f w → YieldsAt P ops w o v a) ∧ wpMixT P ops m C Q f r (a.put o.dst v) w
 | f, (k, 2) :: r, a, w => ∃ o v, ops[k]? = some o ∧ (∀ w, C false w → YieldsAt P ops w o v a) ∧ wpMixT P ops m C Q f r (a.put o.dst v) w
 | f, (k, n + 3) :: r, a, w => C f w ∧ wpOp P ops Q k (fun a' w' => C (f || k == m) w' ∧ wpOp P ops Q n (fun a2 w2 => wpMixT P ops m C Q (f || k == m || n == m) r a2 w2) a' w') a w ∧
   wpOp P ops Q n (fun a' w' => C (f || n == m) w' ∧ wpOp P ops Q k (fun a2 w2 => wpMixT P ops m C Q (f || k == m || n == m) r a2 w2) a' w') a w
end
end
section
open Go.RowKit Go.Maps
theorem mixedO : Try.prog.follows .mixedOrders = true := by kernel_rfl
end
section
open Go.RowKit Go.Maps

end
section
open Go.RowKit Go.Maps

end
section
open Go.RowKit Go.Maps

end
section
open Go.RowKit Go.Maps

end
section
open Go.RowKit Go.Maps

end
section
open Go.RowKit Go.Maps
attribute [local go_sem ↓] Qda Qdh
end
section
open Go.RowKit Go.Maps
abbrev pgZ : Obj := .cells #[.slice none 0 0, .slice none 0 0, .slice none 0 0, .slice none 0 0, .slice none 0 0] 28
end
section
open Go.RowKit Go.Maps
abbrev ftZ : Obj := .cells #[.int .i64 0, .int .i64 0] 31
end
section
open Go.RowKit Go.Maps
def RdAns (rb : Nat) (w : World) (r : Rs Pg) (en : Ending) (w' : World) : Prop := match r with
 | .bad why at_ _ => en = .returned (.tuple #[.agg #[.slice none 0 0, .slice none 0 0, .slice none 0 0, .slice none 0 0, .slice none 0 0], .agg #[.int .i64 why, .int .i64 at_]]) ∧ Kp rb w w'
 | .ok p _ _ => ∃ v, en = .returned (.tuple #[v, .agg #[.int .i64 0, .int .i64 0]]) ∧ VPg (fun b => w.heap.size ≤ b) w' v p ∧ Kp rb w w'
end
section
open Go.ChangeShapes Go.WideShapes Go.ChangeAt Go.WideMaps Go.WideElems Go.RowKit
section
variable {H : Type} {enc : TypeId × Value → H}
end

theorem own : ownKnob Try.prog.godebug = none := by kernel_rfl
end
section
open Go.ChangeShapes Go.WideShapes Go.ChangeAt Go.WideMaps Go.WideElems Go.RowKit
def five : List Tok := [⟨1, [100, 46, 112, 97, 116, 104], 0, 0⟩, ⟨4, [40], 0, 6⟩, ⟨2, [], 1, 7⟩, ⟨4, [41], 0, 8⟩, ⟨4, [46], 0, 9⟩]
structure RowAt (w : World) (g cap : Nat) (toks : List Tok) : Prop where
 lt : g < w.heap.size
 le : toks.length ≤ cap
 cm : cap ≤ maxLen
 cells : ∀ (i : Nat) (t : Tok), toks[i]? = some t → w.cell? ⟨g, i * 4, none⟩ = some (.int .i64 t.kind) ∧ w.cell? ⟨g, i * 4 + 1, none⟩ = some (str t.text) ∧ w.cell? ⟨g, i * 4 + 2, none⟩ = some (.int .i64 t.num) ∧ w.cell? ⟨g, i * 4 + 3, none⟩ = some (.int .i64 (t.at_ : Int))
theorem RowAt.later {w w' : World} {g cap : Nat} {toks : List Tok} (h : RowAt w g cap toks) (hb : Below w.heap.size w w') : RowAt w' g cap toks :=
 ⟨Nat.lt_of_lt_of_le h.lt hb.size, h.le, h.cm, fun i t ht => by
  have := h.cells i t ht
  rw [← hb.cell (p := ⟨g, i * 4, none⟩) h.lt, ← hb.cell (p := ⟨g, i * 4 + 1, none⟩) h.lt, ← hb.cell (p := ⟨g, i * 4 + 2, none⟩) h.lt, ← hb.cell (p := ⟨g, i * 4 + 3, none⟩) h.lt] at this
  exact this⟩
theorem Qgb : ∀ (l : List Tok) (i : Nat) (t : Tok), l[i]? = some t → ∀ q, q < 4 → (tokCells l)[i * 4 + q]? = (tokVals t)[q]?
 | [], i, t, h => by simp at h
 | x :: l, 0, t, h => fun q hq => by
  simp at h; subst h
  have : tokCells (x :: l) = tokVals x ++ tokCells l := rfl
  rw [this, Nat.zero_mul, Nat.zero_add, List.getElem?_append_left (by simpa [tokVals] using hq)]
 | x :: l, i + 1, t, h => fun q hq => by
  have : tokCells (x :: l) = tokVals x ++ tokCells l := rfl
  have e : (tokVals x).length = 4 := rfl
  rw [this, List.getElem?_append_right (by rw [e]; omega), e, show (i + 1) * 4 + q - 4 = i * 4 + q by omega]
  exact Qgb l i t (by simpa using h) q hq
theorem row_of {w : World} {B : Nat} {v : Value} {toks : List Tok} (h : w.ownsRow B 54 4 v toks.length (tokCells toks)) :
  (v = .slice none 0 0 ∧ toks = []) ∨ ∃ g cap, v = .slice (some ⟨g, 0, none⟩) toks.length cap ∧ RowAt w g cap toks := by
 rcases h.2 with ⟨h1, h2⟩ | ⟨g, cap, cur, hv, hg, hh, hle, hcm, hcs, ht⟩
 · exact .inl ⟨h1, List.eq_nil_of_length_eq_zero h2⟩
 refine .inr ⟨g, cap, hv, (Array.getElem?_eq_some_iff.1 hh).1, hle, hcm, fun i t hi => ?_⟩
 have hlen : i < toks.length := (List.getElem?_eq_some_iff.1 hi).1
 have key : ∀ q v, q < 4 → (tokVals t)[q]? = some v → w.cell? ⟨g, i * 4 + q, none⟩ = some v := fun q v hq hv => by
  rw [Lib.cell_of_heap hh, ← Array.getElem?_toList]
  have h1 : (cur.toList.take (toks.length * 4))[i * 4 + q]? = (tokCells toks)[i * 4 + q]? := by rw [ht]
  rw [List.getElem?_take, if_pos (by omega)] at h1
  rw [h1, Qgb toks i t hi q hq, hv]
 exact ⟨key 0 _ (by omega) rfl, key 1 _ (by omega) rfl, key 2 _ (by omega) rfl, key 3 _ (by omega) rfl⟩
end
section
open Go.RowKit
def Ris (k n : Nat) : List Tok → Prop
 | [] => True
 | t :: l => k ≤ t.at_ ∧ t.at_ < n ∧ Ris (t.at_ + 1) n l
theorem Ris.mono {n : Nat} : ∀ {l : List Tok} {k j : Nat}, j ≤ k → Ris k n l → Ris j n l
 | [], _, _, _, _ => trivial
 | _ :: _, _, _, h, hr => ⟨Nat.le_trans h hr.1, hr.2⟩
theorem Qqg : ∀ (m : Nat) (r : Txt) (k : Nat), r.length ≤ m → match scan k r with | .ok l => Ris k (k + r.length) l | .bad why a => why ≠ 0 ∧ a ≤ k + r.length := by
 intro m
 induction m with
 | zero =>
  intro r k h
  have : r = [] := List.eq_nil_of_length_eq_zero (by omega)
  subst this
  rw [Qci]; trivial
 | succ m ih =>
  intro r k h
  by_cases h0 : r = []
  · subst h0; rw [Qci]; trivial
  cases hg : gapAt r with
  | never => rw [Qd hg]; exact ⟨by decide, by omega⟩
  | gap n =>
   have hp := Qdf hg
   have := ih (r.drop n) (k + n) (by rw [List.length_drop]; omega)
   rw [Qdn hg]
   rw [List.length_drop, show k + n + (r.length - n) = k + r.length by omega] at this
   cases hs : scan (k + n) (r.drop n) with
   | ok l => rw [hs] at this; exact Ris.mono (by omega) this
   | bad w a => rw [hs] at this; exact this
  | none =>
   cases ht : tokAt r with
   | bad w o =>
    rw [Qcs h0 hg ht]
    have := Qjx ht
    exact ⟨this.1, by omega⟩
   | tok kd tx nm n =>
    have hp := Qcw ht
    have := ih (r.drop n) (k + n) (by rw [List.length_drop]; omega)
    rw [Qeh hg ht]
    rw [List.length_drop, show k + n + (r.length - n) = k + r.length by omega] at this
    cases hs : scan (k + n) (r.drop n) with
    | ok l => rw [hs] at this; exact ⟨Nat.le_refl _, by show k < _; omega, Ris.mono (by show k + 1 ≤ _; omega) this⟩
    | bad w a => rw [hs] at this; exact this
theorem Qnb (l : Txt) : match lexP l with | .ok t => Ris 0 l.length t | .bad why a => why ≠ 0 ∧ a ≤ l.length := by
 unfold lexP
 by_cases h : 65536 < l.length
 · rw [if_pos h]; exact ⟨by decide, Nat.zero_le _⟩
 rw [if_neg h]
 have := Qqg l.length l 0 (Nat.le_refl _)
 rwa [Nat.zero_add] at this
theorem tk_new (w : World) (k n a : Int) (t : ByteArray) : (tkStore (.pointer (some ⟨w.heap.size, 0, none⟩)) (.agg #[.int .i64 k, .string t, .int .i64 n, .int .i64 a])).run Try.prog (w.alloc tokZ) = .ok () (w.alloc (.cells #[.int .i64 k, .string t, .int .i64 n, .int .i64 a] 54)) :=
 run_storeAt_new w 54 _ _ Qjw rfl (by simp [Value.oneCell'])

def RsRel (n : Nat) (toks : List Tok) (w : World) (g cap : Nat) (a i : Value) (wr : World) : Prop :=
 ∃ (j lo : Nat), i = .int .i64 (j : Int) ∧ a = .int .i64 ((lo : Int) - 1) ∧ j ≤ toks.length ∧ lo ≤ n ∧ Hid (Below w.heap.size w wr ∧ RowAt wr g cap toks ∧ Ris lo n (toks.drop j))

attribute [local go_sem ↓] Qdo Qee
end
section
open Go.RowKit Go.Maps
def TkOk (t : Tok) : Prop := 1 ≤ t.kind ∧ t.kind ≤ 4 ∧ 0 ≤ t.num ∧ t.num ≤ 9223372036854775807
theorem tok_ok {r : Txt} {kd : Int} {tx : Txt} {nm : Int} {n : Nat} (h : tokAt r = .tok kd tx nm n) : 1 ≤ kd ∧ kd ≤ 4 ∧ 0 ≤ nm ∧ nm ≤ 9223372036854775807 := by
 cases r with
 | nil => simp [tokAt] at h
 | cons c t =>
  rw [Qdp] at h
  split at h
  ·
   unfold nmRes at h
   split at h
   · cases h
   · cases h; decide
  split at h
  ·
   unfold dgRes at h
   split at h
   · cases h
   split at h
   · cases h
   · cases h; exact ⟨by decide, by decide, by omega, by omega⟩
  split at h
  ·
   unfold txRes at h
   cases ht : txScan t with
   | ok v m => rw [ht] at h; cases h; decide
   | bad o => rw [ht] at h; cases h
   | never => rw [ht] at h; cases h
  unfold sgRes at h
  split at h
  · cases h
  · cases h; decide
theorem scan_ok : ∀ (m : Nat) (r : Txt) (k : Nat), r.length ≤ m → ∀ l, scan k r = .ok l → l.length ≤ r.length ∧ ∀ t ∈ l, TkOk t := by
 intro m
 induction m with
 | zero =>
  intro r k h l hl
  have : r = [] := List.eq_nil_of_length_eq_zero (by omega)
  subst this
  rw [Qci] at hl
  cases hl
  exact ⟨Nat.le_refl _, fun t ht => by cases ht⟩
 | succ m ih =>
  intro r k h l hl
  by_cases h0 : r = []
  · subst h0; rw [Qci] at hl; cases hl; exact ⟨Nat.le_refl _, fun t ht => by cases ht⟩
  cases hg : gapAt r with
  | never => rw [Qd hg] at hl; cases hl
  | gap n =>
   have hp := Qdf hg
   rw [Qdn hg] at hl
   obtain ⟨g1, g2⟩ := ih (r.drop n) (k + n) (by rw [List.length_drop]; omega) l hl
   rw [List.length_drop] at g1
   exact ⟨by omega, g2⟩
  | none =>
   cases ht : tokAt r with
   | bad w o => rw [Qcs h0 hg ht] at hl; cases hl
   | tok kd tx nm n =>
    have hp := Qcw ht
    rw [Qeh hg ht] at hl
    cases hs : scan (k + n) (r.drop n) with
    | bad w a => rw [hs] at hl; cases hl
    | ok l1 =>
     rw [hs] at hl
     cases hl
     obtain ⟨g1, g2⟩ := ih (r.drop n) (k + n) (by rw [List.length_drop]; omega) l1 hs
     rw [List.length_drop] at g1
     refine ⟨by simp only [List.length_cons]; omega, fun t htm => ?_⟩
     rcases List.mem_cons.1 htm with rfl | h2
     · exact tok_ok ht
     · exact g2 t h2
theorem Qr {s : Txt} {l : List Tok} (h : lexP s = .ok l) : s.length ≤ 65536 ∧ l.length ≤ s.length ∧ ∀ t ∈ l, TkOk t := by
 unfold lexP at h
 split at h
 · cases h
 obtain ⟨g1, g2⟩ := scan_ok s.length s 0 (Nat.le_refl _) l h
 exact ⟨by omega, g1, g2⟩
theorem Ris.at {n : Nat} : ∀ {l : List Tok} {k : Nat}, Ris k n l → ∀ t ∈ l, t.at_ < n
 | [], _, _, t, ht => by cases ht
 | x :: l, _, h, t, ht => by
  rcases List.mem_cons.1 ht with rfl | h2
  · exact h.2.1
  · exact h.2.2.at t h2
def parseP (s : Txt) : Rs Pg := match lexP s with
 | .bad why a => .bad why a []
 | .ok toks => progD s.length 32 true toks 0
def PsA (w : World) (r : Rs Pg) (en : Ending) (w' : World) : Prop := match r with
 | .bad why at_ _ => en = .returned (.tuple #[.agg #[.slice none 0 0, .slice none 0 0, .slice none 0 0, .slice none 0 0, .slice none 0 0], .agg #[.int .i64 why, .int .i64 at_]]) ∧ Below w.heap.size w w'
 | .ok p _ _ => ∃ v, en = .returned (.tuple #[v, .agg #[.int .i64 0, .int .i64 0]]) ∧ VPg (fun b => w.heap.size ≤ b) w' v p ∧ Below w.heap.size w w'
theorem Kp.bel {rb : Nat} {w w' : World} (h : Kp rb w w') {B : Nat} (h1 : B ≤ rb) (h2 : B ≤ w.heap.size) : Below B w w' := h.below h2 h1
end
section
open Go.RowKit Go.Maps
def eqL {α : Type} (eq : α → α → Bool) (xs ys : List α) : Bool := decide (xs.length = ys.length) && (xs.zip ys).all (fun q => eq q.1 q.2)
theorem Qms {k : Nat} : ∀ (css : List (List Value)) (j : Nat) (cs : List Value), (∀ c ∈ css, c.length = k) → css[j]? = some cs → ∀ q, q < k → css.flatten[j * k + q]? = cs[q]?
 | [], j, cs, _, h => by simp at h
 | c :: css, 0, cs, hl, h => fun q hq => by
  simp at h
  subst h
  rw [List.flatten_cons, Nat.zero_mul, Nat.zero_add, List.getElem?_append_left (by rw [hl c (by simp)]; exact hq)]
 | c :: css, j + 1, cs, hl, h => fun q hq => by
  have hc : c.length = k := hl c (by simp)
  rw [List.flatten_cons, List.getElem?_append_right (by rw [hc, Nat.succ_mul]; omega), hc, show (j + 1) * k + q - k = j * k + q by rw [Nat.succ_mul]; omega]
  exact Qms css j cs (fun x hx => hl x (by simp [hx])) (by simpa using h) q hq
theorem LsAt.elem {α : Type} {p : PS α} {k : Nat} {S : Nat → Prop} {w : World} {v : Value} {xs : List α} (h : LsAt p k S w v xs) {j : Nat} {x : α} (hx : xs[j]? = some x) : ∃ b cap cs, v = .slice (some ⟨b, 0, none⟩) xs.length cap ∧ b < w.heap.size ∧ S b ∧ cs.length = k ∧ p S w cs x ∧ ∀ q c, cs[q]? = some c → w.cell? ⟨b, j * k + q, none⟩ = some c := by
 obtain ⟨a, cap, css, rfl, h1, h2, h3, h4⟩ := h
 have hj : j < xs.length := (List.getElem?_eq_some_iff.1 hx).1
 obtain ⟨b, rfl, hS, hb, hc⟩ := h4 (fun e => by rw [e] at hj; simp at hj)
 have hj2 : j < css.length := by rw [h3.1]; exact hj
 have hl : ∀ c ∈ css, c.length = k := fun c hc => by
  obtain ⟨i, hi, e⟩ := List.getElem_of_mem hc
  have hi2 : i < xs.length := by rw [← h3.1]; exact hi
  exact (h3.2 i _ c (List.getElem?_eq_getElem hi2) (by rw [List.getElem?_eq_getElem hi, e])).1
 obtain ⟨g1, g2⟩ := h3.2 j x css[j] hx (List.getElem?_eq_getElem hj2)
 refine ⟨b, cap, css[j], rfl, hb, hS, g1, g2, fun q c hq => hc _ _ ?_⟩
 rw [Qms css j css[j] hl (List.getElem?_eq_getElem hj2) q (by rw [← g1]; exact (List.getElem?_eq_some_iff.1 hq).1)]
 exact hq
theorem LsAt.later {α : Type} {p : PS α} (hp : PSok p) {k : Nat} {S : Nat → Prop} {w w' : World} {v : Value} {xs : List α} (h : LsAt p k S w v xs) (b : Below w.heap.size w w') : LsAt p k S w' v xs := h.same hp b.size (fun k _ hk => b.block k hk)
end
section
open Go.RowKit Go.Maps
def eqFd (x y : Fld) : Bool := decide (x.name = y.name) && decide (x.type = y.type)
end
section
open Go.RowKit Go.Maps
def eqTx (x y : Txt) : Bool := decide (x = y)
end
section
open Go.RowKit Go.Maps
def qeLoad (a : Value) : Sem Value := Instr.loadAt 126 a
theorem Qbw (a : Value) : Instr.loadAt 126 a = qeLoad a := rfl
def qeStore (p v : Value) : Sem Unit := Instr.storeAt 126 p v
theorem Qbk (p v : Value) : Instr.storeAt 126 p v = qeStore p v := rfl
theorem size_qe : (Try.prog.info? 126).map (·.size) = some 5 := by kernel_rfl
theorem Qdv (w : World) {c0 c1 c2 c3 c4 : Value} (h1 : ∀ c ∈ ([c0, c1, c2, c3, c4] : List Value), c.oneCell' = true) : (qeStore (.pointer (some ⟨w.heap.size, 0, none⟩)) (.agg #[c0, c1, c2, c3, c4])).run Try.prog (w.alloc (.cells #[.int .i64 0, .int .i64 0, .string ⟨#[]⟩, .slice none 0 0, .int .i64 0] 126)) = .ok () (w.alloc (.cells #[c0, c1, c2, c3, c4] 126)) :=
 run_storeAt_new w 126 _ _ size_qe rfl (by simpa using h1)
attribute [local go_sem ↓] Qbw Qbk
end
section
open Go.RowKit Go.Maps
def qlLoad (a : Value) : Sem Value := Instr.loadAt 128 a
theorem Qng (a : Value) : Instr.loadAt 128 a = qlLoad a := rfl
def qlStore (p v : Value) : Sem Unit := Instr.storeAt 128 p v
theorem Qlt (p v : Value) : Instr.storeAt 128 p v = qlStore p v := rfl
attribute [local go_sem ↓] Qng Qlt
end
section
open Go.RowKit Go.Maps
def qcLoad (a : Value) : Sem Value := Instr.loadAt 120 a
theorem Qnd (a : Value) : Instr.loadAt 120 a = qcLoad a := rfl
def qcStore (p v : Value) : Sem Unit := Instr.storeAt 120 p v
theorem Qlq (p v : Value) : Instr.storeAt 120 p v = qcStore p v := rfl
attribute [local go_sem ↓] Qnd Qlq
end
section
open Go.RowKit Go.Maps
def qtLoad (a : Value) : Sem Value := Instr.loadAt 68 a
theorem Qnj (a : Value) : Instr.loadAt 68 a = qtLoad a := rfl
def qtStore (p v : Value) : Sem Unit := Instr.storeAt 68 p v
theorem Qlw (p v : Value) : Instr.storeAt 68 p v = qtStore p v := rfl
attribute [local go_sem ↓] Qnj Qlw
end
section
open Go.RowKit Go.Maps
def qdLoad (a : Value) : Sem Value := Instr.loadAt 43 a
theorem Qne (a : Value) : Instr.loadAt 43 a = qdLoad a := rfl
def qdStore (p v : Value) : Sem Unit := Instr.storeAt 43 p v
theorem Qlr (p v : Value) : Instr.storeAt 43 p v = qdStore p v := rfl
attribute [local go_sem ↓] Qne Qlr
end
section
open Go.RowKit Go.Maps
def qpLoad (a : Value) : Sem Value := Instr.loadAt 40 a
theorem Qnh (a : Value) : Instr.loadAt 40 a = qpLoad a := rfl
def qpStore (p v : Value) : Sem Unit := Instr.storeAt 40 p v
theorem Qlu (p v : Value) : Instr.storeAt 40 p v = qpStore p v := rfl
attribute [local go_sem ↓] Qnh Qlu
end
section
open Go.RowKit Go.Maps
def qiLoad (a : Value) : Sem Value := Instr.loadAt 45 a
theorem Qnf (a : Value) : Instr.loadAt 45 a = qiLoad a := rfl
def qiStore (p v : Value) : Sem Unit := Instr.storeAt 45 p v
theorem Qls (p v : Value) : Instr.storeAt 45 p v = qiStore p v := rfl
attribute [local go_sem ↓] Qnf Qls
end
end Go.Proofs.Ytfmbpaoapjmdnaa
