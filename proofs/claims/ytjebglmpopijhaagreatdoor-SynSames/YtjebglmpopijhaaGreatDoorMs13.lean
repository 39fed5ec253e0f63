/- syn: a program in memory. The plain reading: how many items have begun; what is taken. syn: comp, what it stores. syn: a component with bases. -/
import Derived.Test.YtjebglmpopijhaaGreatDoorMs12
import Derived.Test.YtjebglmpopijhaaGreatDoorMs07
import Derived.Deep.WholeRow
set_option maxRecDepth 100000
set_option maxHeartbeats 32000000
namespace Go.Proofs.YtjebglmpopijhaaGreatDoor
section
open Go.RowKit Go.Maps
def PTy : PS Typ := fun S w cs x => ∃ xa xn xc, cs = [str x.name, str x.sub, .slice xa xn xc, .int .i64 x.at_] ∧ LsAt PC 2 S w (.slice xa xn xc) x.ctors
theorem Qbr : PSok PTy where
 mono := fun _ _ _ _ _ ⟨xa, xn, xc, h1, h2⟩ hS => ⟨xa, xn, xc, h1, h2.mono Qcz hS⟩
 same := fun _ _ _ _ _ ⟨xa, xn, xc, h1, h2⟩ hs hb => ⟨xa, xn, xc, h1, h2.same Qcz hs hb⟩
def PDc : PS Dcl := fun S w cs x => ∃ xa xn xc, cs = [str x.name, .slice xa xn xc, .bool x.input, .bool x.output, .int .i64 x.at_] ∧ LsAt PF 2 S w (.slice xa xn xc) x.cols
theorem Qbq : PSok PDc where
 mono := fun _ _ _ _ _ ⟨xa, xn, xc, h1, h2⟩ hS => ⟨xa, xn, xc, h1, h2.mono Qbt hS⟩
 same := fun _ _ _ _ _ ⟨xa, xn, xc, h1, h2⟩ hs hb => ⟨xa, xn, xc, h1, h2.same Qbt hs hb⟩
def PIn : PS Ini := fun _ _ cs x => cs = [str x.name, str x.comp, .int .i64 x.at_]
theorem Qby : PSok PIn where
 mono := fun _ _ _ _ _ h _ => h
 same := fun _ _ _ _ _ h _ _ => h
def PCl : PS Cls := fun S w cs x => ∃ aa an ac ba bn bc, cs = [str x.head.rel, .slice aa an ac, .int .i64 x.head.at_, .slice ba bn bc, .int .i64 x.at_] ∧ LsAt PE 5 S w (.slice aa an ac) x.head.args ∧ LsAt PLt 16 S w (.slice ba bn bc) x.body
theorem Qbg : PSok PCl where
 mono := fun _ _ _ _ _ ⟨aa, an, ac, ba, bn, bc, h1, h2, h3⟩ hS => ⟨aa, an, ac, ba, bn, bc, h1, h2.mono Qaf hS, h3.mono Qbl hS⟩
 same := fun _ _ _ _ _ ⟨aa, an, ac, ba, bn, bc, h1, h2, h3⟩ hs hb => ⟨aa, an, ac, ba, bn, bc, h1, h2.same Qaf hs hb, h3.same Qbl hs hb⟩
def PSt : PS Txt := fun _ _ cs x => cs = [str x]
theorem Qbf : PSok PSt where
 mono := fun _ _ _ _ _ h _ => h
 same := fun _ _ _ _ _ h _ _ => h
abbrev Cp := Txt × List Txt × Pg × Int
inductive PgS (S : Nat → Prop) (w : World) : List Value → Pg → Prop
 | mk (ts : List Typ) (ds : List Dcl) (cs : List Cp) (is : List Ini) (ls : List Cls) (vt vd vi vl : Value) (ao : Option Addr) (cap : Nat) (css : List (List Value)) (vb : Nat → Value) (bd : Nat → List Value)
   (hT : LsAt PTy 4 S w vt ts) (hD : LsAt PDc 5 S w vd ds) (hI : LsAt PIn 3 S w vi is) (hL : LsAt PCl 5 S w vl ls)
   (h1 : cs.length ≤ cap) (h2 : cap ≤ maxLen) (h3 : css.length = cs.length)
   (h4 : ∀ (j : Nat) (x : Cp), cs[j]? = some x → css[j]? = some (str x.1 :: vb j :: (bd j ++ [.int .i64 x.2.2.2])) ∧ (bd j).length = 5 ∧ LsAt PSt 1 S w (vb j) x.2.1)
   (h6 : ∀ (j : Nat) (x : Cp), cs[j]? = some x → PgS S w (bd j) x.2.2.1)
   (h5 : cs ≠ [] → ∃ b, ao = some ⟨b, 0, none⟩ ∧ S b ∧ b < w.heap.size ∧ ∀ j c, css.flatten[j]? = some c → w.cell? ⟨b, j, none⟩ = some c) :
   PgS S w [vt, vd, .slice ao cs.length cap, vi, vl] (.mk ts ds cs is ls)
theorem Qbe : PSok (α := Pg) (fun S w cs x => PgS S w cs x) where
 mono := fun S S' w cs x h hS => by
  induction h with
  | mk ts ds cs is ls vt vd vi vl ao cap css vb bd hT hD hI hL h1 h2 h3 h4 h6 h5 ih =>
   refine .mk ts ds cs is ls vt vd vi vl ao cap css vb bd (hT.mono Qbr hS) (hD.mono Qbq hS) (hI.mono Qby hS) (hL.mono Qbg hS) h1 h2 h3 (fun j x hj => ⟨(h4 j x hj).1, (h4 j x hj).2.1, (h4 j x hj).2.2.mono Qbf hS⟩) ih (fun hn => ?_)
   obtain ⟨b, e1, e2, e3, e4⟩ := h5 hn
   exact ⟨b, e1, hS b e3 e2, e3, e4⟩
 same := fun S w w' cs x h hs hb => by
  induction h with
  | mk ts ds cs is ls vt vd vi vl ao cap css vb bd hT hD hI hL h1 h2 h3 h4 h6 h5 ih =>
   refine .mk ts ds cs is ls vt vd vi vl ao cap css vb bd (hT.same Qbr hs hb) (hD.same Qbq hs hb) (hI.same Qby hs hb) (hL.same Qbg hs hb) h1 h2 h3 (fun j x hj => ⟨(h4 j x hj).1, (h4 j x hj).2.1, (h4 j x hj).2.2.same Qbf hs hb⟩) ih (fun hn => ?_)
   obtain ⟨b, e1, e2, e3, e4⟩ := h5 hn
   refine ⟨b, e1, e2, by omega, fun j c hj => ?_⟩
   have := e4 j c hj
   simp only [World.cell?] at this ⊢
   rw [hb b e2 e3]; exact this
def PCo : PS Cp := fun S w cs x => ∃ vb bd, cs = str x.1 :: vb :: (bd ++ [.int .i64 x.2.2.2]) ∧ bd.length = 5 ∧ LsAt PSt 1 S w vb x.2.1 ∧ PgS S w bd x.2.2.1
theorem Qbx : PSok PCo where
 mono := fun _ _ _ _ _ ⟨vb, bd, h1, h2, h3, h4⟩ hS => ⟨vb, bd, h1, h2, h3.mono Qbf hS, Qbe.mono _ _ _ _ _ h4 hS⟩
 same := fun _ _ _ _ _ ⟨vb, bd, h1, h2, h3, h4⟩ hs hb => ⟨vb, bd, h1, h2, h3.same Qbf hs hb, Qbe.same _ _ _ _ _ h4 hs hb⟩
theorem Qpy {S : Nat → Prop} {w : World} {ts : List Typ} {ds : List Dcl} {cs : List Cp} {is : List Ini} {ls : List Cls} {vt vd vc vi vl : Value} (hT : LsAt PTy 4 S w vt ts) (hD : LsAt PDc 5 S w vd ds) (hC : LsAt PCo 8 S w vc cs) (hI : LsAt PIn 3 S w vi is) (hL : LsAt PCl 5 S w vl ls) : PgS S w [vt, vd, vc, vi, vl] (.mk ts ds cs is ls) := by
 obtain ⟨ao, cap, css, rfl, h1, h2, h3, h5⟩ := hC
 have hch : ∀ j : Nat, ∃ q : Value × List Value, ∀ x : Cp, cs[j]? = some x → css[j]? = some (str x.1 :: q.1 :: (q.2 ++ [.int .i64 x.2.2.2])) ∧ q.2.length = 5 ∧ LsAt PSt 1 S w q.1 x.2.1 ∧ PgS S w q.2 x.2.2.1 := fun j => by
  by_cases hj : j < cs.length
  ·
   have hj2 : j < css.length := by rw [h3.1]; exact hj
   obtain ⟨_, vb, bd, e1, e2, e3, e4⟩ := h3.2 j cs[j] css[j] (List.getElem?_eq_getElem hj) (List.getElem?_eq_getElem hj2)
   refine ⟨(vb, bd), fun x hx => ?_⟩
   rw [List.getElem?_eq_getElem hj] at hx
   cases hx
   exact ⟨by rw [List.getElem?_eq_getElem hj2, e1], e2, e3, e4⟩
  · exact ⟨(.int .i64 0, []), fun x hx => absurd (List.getElem?_eq_some_iff.1 hx).1 hj⟩
 obtain ⟨q, hq⟩ := Classical.axiomOfChoice hch
 exact .mk ts ds cs is ls vt vd vi vl ao cap css (fun j => (q j).1) (fun j => (q j).2) hT hD hI hL h1 h2 h3.1 (fun j x hx => ⟨(hq j x hx).1, (hq j x hx).2.1, (hq j x hx).2.2.1⟩) (fun j x hx => (hq j x hx).2.2.2) h5
theorem PgS.cells {S : Nat → Prop} {w : World} {v : List Value} {p : Pg} (h : PgS S w v p) : ∃ vt vd vc vi vl, v = [vt, vd, vc, vi, vl] ∧ LsAt PTy 4 S w vt p.types ∧ LsAt PDc 5 S w vd p.decls ∧ LsAt PCo 8 S w vc p.comps ∧ LsAt PIn 3 S w vi p.inits ∧ LsAt PCl 5 S w vl p.clauses := by
 cases h with
 | mk ts ds cs is ls vt vd vi vl ao cap css vb bd hT hD hI hL h1 h2 h3 h4 h6 h5 =>
  refine ⟨_, _, _, _, _, rfl, hT, hD, ⟨ao, cap, css, rfl, h1, h2, ⟨h3, fun j x c hx hc => ?_⟩, h5⟩, hI, hL⟩
  obtain ⟨e1, e2, e3⟩ := h4 j x hx
  rw [e1] at hc
  cases hc
  exact ⟨by simp [e2], vb j, bd j, rfl, e2, e3, h6 j x hx⟩

def Row {α : Type} (p : PS α) (k : Nat) (T : TypeId) (base : Nat) (S : Nat → Prop) (w : World) (sl : Value) (acc : List α) : Prop := ∃ css, w.ownsRow base T k sl acc.length css.flatten ∧ All p k S w css acc
section
variable {α : Type} {p : PS α} {k : Nat} {T : TypeId} {base : Nat}
theorem Row.nil (S : Nat → Prop) (w : World) : Row p k T base S w (.slice none 0 0) [] := ⟨[], World.ownsRow_nil _ _ _ _, ⟨rfl, fun j x cs hx => by simp at hx⟩⟩
theorem Row.lt {S : Nat → Prop} {w : World} {sl : Value} {acc : List α} (h : Row p k T base S w sl acc) : ∀ b, some b = sl.ownBlock → base ≤ b ∧ b < w.heap.size := fun b e => by
 obtain ⟨css, ho, _⟩ := h
 exact World.ownsRow.lt ho b e.symm
theorem Row.slice {S : Nat → Prop} {w : World} {sl : Value} {acc : List α} (h : Row p k T base S w sl acc) : ∃ a c, sl = .slice a acc.length c := by
 obtain ⟨css, ho, _⟩ := h
 rcases ho.2 with ⟨e, e2⟩ | ⟨g, cap, cur, e, _⟩
 · exact ⟨none, 0, by rw [e, e2]⟩
 · exact ⟨_, _, e⟩
theorem Row.move (hp : PSok p) {S S' : Nat → Prop} {w w' : World} {sl : Value} {acc : List α} (h : Row p k T base S w sl acc) (hs : w.heap.size ≤ w'.heap.size) (hb : ∀ b, base ≤ b → b < w.heap.size → (S b ∨ some b = sl.ownBlock) → w'.heap[b]? = w.heap[b]?) (hB : ∀ b, S b → base ≤ b) (hS : ∀ b, b < w.heap.size → S b → S' b) : Row p k T base S' w' sl acc := by
 obtain ⟨css, ho, ha⟩ := h
 refine ⟨css, ⟨ho.1, ?_⟩, ?_⟩
 ·
  rcases ho.2 with e | ⟨g, cap, cur, e1, e2, e3, e4⟩
  · exact .inl e
  · exact .inr ⟨g, cap, cur, e1, e2, (hb g e2 (Qag e3) (.inr (by rw [e1]; rfl))).trans e3, e4⟩
 have h2 := (ha.mono hp (fun b hl hs => (⟨hs, hl⟩ : S b ∧ b < w.heap.size))).same hp hs (fun b hs hl => hb b (hB b hs.1) hl (.inl hs.1))
 exact h2.mono hp (fun b _ hs => hS b hs.2 hs.1)
theorem Row.ls {S : Nat → Prop} {w : World} {sl : Value} {acc : List α} (hp : PSok p) (h : Row p k T base S w sl acc) (hS : ∀ b, S b → base ≤ b) : LsAt p k (fun b => base ≤ b) w sl acc := by
 obtain ⟨css, ho, ha⟩ := h
 exact LsAt.of ho (ha.mono hp (fun b _ hs => hS b hs))
theorem Row.app (hp : PSok p) {ST : TypeId} {i0 : TypeInfo} {z : Value} {by_ : Nat} (ht : Tryz.prog.underlying ST = some (.slice T)) (hi : Tryz.prog.info? T = some i0) (hz : i0.zero = some z) (hsz : i0.size = k) (hby : i0.bytes = by_) (hzc : z.cells.size = k) (hk : 0 < k) (hb6 : by_ ≤ 1000)
  {S : Nat → Prop} {w2 : World} {sl : Value} {acc : List α} (h : Row p k T base S w2 sl acc) (hS : ∀ b, S b → some b ≠ sl.ownBlock) {x : α} {cs : List Value} (hl : cs.length = k) (h1 : ∀ c ∈ cs, c.oneCell' = true) (hx : p S w2 cs x) (hbase : base ≤ w2.heap.size) (hf : acc.length ≤ 65536) (zb : Nat) (hzb : w2.heap[zb]? = some (.cells cs.toArray T (0, 0))) :
  ∃ r w8, (Builtin.append_ #[ST, ST] ST #[sl, .slice (some ⟨zb, 0, none⟩) 1 1]).run Tryz.prog w2 = .ok r w8 ∧ w2.grownBy w8 sl.ownBlock ∧ (r.ownBlock = sl.ownBlock ∨ r.ownBlock = some w2.heap.size) ∧ (∃ g c, r = .slice (some ⟨g, 0, none⟩) (acc.length + 1) c) ∧ Row p k T base S w8 r (acc ++ [x]) := by
 obtain ⟨css, ho, ha⟩ := h
 obtain ⟨r, w8, hr, o8, g8, _, a8⟩ := run_append_own_at (P := Tryz.prog) w2 base ST ST T i0 z k by_ ht hi hz hsz hby hzc hk sl acc.length css.flatten ho ⟨zb, 0, none⟩ 1 1 cs (by rw [hl, Nat.one_mul]) (fun j u hj => by
  have e1 : (⟨zb, 0, none⟩ : Addr).add j = ⟨zb, j, none⟩ := by cases j <;> simp [Addr.add]
  rw [e1, Qad hzb]
  simpa using hj) h1 (by unfold maxLen; omega) (by
  have h3 : acc.length + 1 ≤ 65537 := by omega
  have := Nat.mul_le_mul h3 hb6
  omega) hbase
 refine ⟨r, w8, hr, g8, a8, ?_, css ++ [cs], by rw [List.length_append]; simpa using o8, ?_⟩
 ·
  rcases o8.2 with ⟨_, e⟩ | ⟨g, cap, cur, e, _⟩
  · omega
  · exact ⟨_, _, e⟩
 have hsm : ∀ b, S b → b < w2.heap.size → w8.heap[b]? = w2.heap[b]? := fun b hs hlt => g8.block b hlt (hS b hs)
 exact (ha.same hp g8.size hsm).snoc hl (hp.same _ _ _ _ _ hx g8.size hsm)
end
def P5S (base : Nat) (v0 v1 v2 v3 v4 : Value) (b : Nat) : Prop := base ≤ b ∧ some b ≠ v0.ownBlock ∧ some b ≠ v1.ownBlock ∧ some b ≠ v2.ownBlock ∧ some b ≠ v3.ownBlock ∧ some b ≠ v4.ownBlock
def Apt (u v : Value) : Prop := ∀ b, some b = u.ownBlock → some b ≠ v.ownBlock
theorem Apt.symm {u v : Value} (h : Apt u v) : Apt v u := fun b e1 e2 => h b e2 e1
structure P5 (pb base : Nat) (w : World) (v0 v1 v2 v3 v4 : Value) (p : Pg) : Prop where
 box : w.heap[pb]? = some (.cells #[v0, v1, v2, v3, v4] 28 (0, 0))
 lt : pb < base
 r0 : Row PTy 4 58 base (P5S base v0 v1 v2 v3 v4) w v0 p.types
 r1 : Row PDc 5 63 base (P5S base v0 v1 v2 v3 v4) w v1 p.decls
 r2 : Row PCo 8 68 base (P5S base v0 v1 v2 v3 v4) w v2 p.comps
 r3 : Row PIn 3 72 base (P5S base v0 v1 v2 v3 v4) w v3 p.inits
 r4 : Row PCl 5 80 base (P5S base v0 v1 v2 v3 v4) w v4 p.clauses
 a01 : Apt v0 v1
 a02 : Apt v0 v2
 a03 : Apt v0 v3
 a04 : Apt v0 v4
 a12 : Apt v1 v2
 a13 : Apt v1 v3
 a14 : Apt v1 v4
 a23 : Apt v2 v3
 a24 : Apt v2 v4
 a34 : Apt v3 v4
structure KB (rb pb base : Nat) (w w' : World) : Prop where
 os : w'.os = w.os
 tape : w'.tape = w.tape
 output : w'.output = w.output
 size : w.heap.size ≤ w'.heap.size
 block : ∀ k, k < base → k ≠ rb → k ≠ pb → w'.heap[k]? = w.heap[k]?
theorem KB.trans {rb pb base : Nat} {a b c : World} (h : KB rb pb base a b) (k : KB rb pb base b c) : KB rb pb base a c := ⟨k.os.trans h.os, k.tape.trans h.tape, k.output.trans h.output, Nat.le_trans h.size k.size, fun i hi hn hm => (k.block i hi hn hm).trans (h.block i hi hn hm)⟩
theorem KB.of_kp {rb pb base : Nat} {w w' : World} (h : Kp rb w w') (hb : base ≤ w.heap.size) : KB rb pb base w w' := ⟨h.os, h.tape, h.output, h.size, fun k hk hn _ => h.block k (by omega) hn⟩
theorem P5.kp {rb pb base : Nat} {w w' : World} {v0 v1 v2 v3 v4 : Value} {p : Pg} (h : P5 pb base w v0 v1 v2 v3 v4 p) (k : Kp rb w w') (hr : rb < pb) : P5 pb base w' v0 v1 v2 v3 v4 p := by
 have hlt := h.lt
 refine ⟨k.keep h.box (by omega), h.lt, ?_, ?_, ?_, ?_, ?_, h.a01, h.a02, h.a03, h.a04, h.a12, h.a13, h.a14, h.a23, h.a24, h.a34⟩
 · exact h.r0.move Qbr k.size (fun b hb hl _ => k.block b hl (by omega)) (fun b hb => hb.1) (fun b _ hs => hs)
 · exact h.r1.move Qbq k.size (fun b hb hl _ => k.block b hl (by omega)) (fun b hb => hb.1) (fun b _ hs => hs)
 · exact h.r2.move Qbx k.size (fun b hb hl _ => k.block b hl (by omega)) (fun b hb => hb.1) (fun b _ hs => hs)
 · exact h.r3.move Qby k.size (fun b hb hl _ => k.block b hl (by omega)) (fun b hb => hb.1) (fun b _ hs => hs)
 · exact h.r4.move Qbg k.size (fun b hb hl _ => k.block b hl (by omega)) (fun b hb => hb.1) (fun b _ hs => hs)
theorem info50 : ∃ i0 : TypeInfo, Tryz.prog.info? 58 = some i0 ∧ i0.zero = some (.agg #[.string ⟨#[]⟩, .string ⟨#[]⟩, .slice none 0 0, .int .i64 0]) ∧ i0.size = 4 ∧ i0.bytes = 64 := by
 have h : (Tryz.prog.info? 58).map (fun i => (i.zero, i.size, i.bytes)) = some (some (.agg #[.string ⟨#[]⟩, .string ⟨#[]⟩, .slice none 0 0, .int .i64 0]), 4, 64) := by kernel_rfl
 obtain ⟨i0, hi, hi3⟩ := Option.map_eq_some_iff.1 h
 simp only [Prod.mk.injEq] at hi3
 exact ⟨i0, hi, hi3⟩
theorem info51 : ∃ i0 : TypeInfo, Tryz.prog.info? 63 = some i0 ∧ i0.zero = some (.agg #[.string ⟨#[]⟩, .slice none 0 0, .bool false, .bool false, .int .i64 0]) ∧ i0.size = 5 ∧ i0.bytes = 56 := by
 have h : (Tryz.prog.info? 63).map (fun i => (i.zero, i.size, i.bytes)) = some (some (.agg #[.string ⟨#[]⟩, .slice none 0 0, .bool false, .bool false, .int .i64 0]), 5, 56) := by kernel_rfl
 obtain ⟨i0, hi, hi3⟩ := Option.map_eq_some_iff.1 h
 simp only [Prod.mk.injEq] at hi3
 exact ⟨i0, hi, hi3⟩
theorem info52 : ∃ i0 : TypeInfo, Tryz.prog.info? 68 = some i0 ∧ i0.zero = some (.agg #[.string ⟨#[]⟩, .slice none 0 0, .slice none 0 0, .slice none 0 0, .slice none 0 0, .slice none 0 0, .slice none 0 0, .int .i64 0]) ∧ i0.size = 8 ∧ i0.bytes = 168 := by
 have h : (Tryz.prog.info? 68).map (fun i => (i.zero, i.size, i.bytes)) = some (some (.agg #[.string ⟨#[]⟩, .slice none 0 0, .slice none 0 0, .slice none 0 0, .slice none 0 0, .slice none 0 0, .slice none 0 0, .int .i64 0]), 8, 168) := by kernel_rfl
 obtain ⟨i0, hi, hi3⟩ := Option.map_eq_some_iff.1 h
 simp only [Prod.mk.injEq] at hi3
 exact ⟨i0, hi, hi3⟩
theorem info53 : ∃ i0 : TypeInfo, Tryz.prog.info? 72 = some i0 ∧ i0.zero = some (.agg #[.string ⟨#[]⟩, .string ⟨#[]⟩, .int .i64 0]) ∧ i0.size = 3 ∧ i0.bytes = 40 := by
 have h : (Tryz.prog.info? 72).map (fun i => (i.zero, i.size, i.bytes)) = some (some (.agg #[.string ⟨#[]⟩, .string ⟨#[]⟩, .int .i64 0]), 3, 40) := by kernel_rfl
 obtain ⟨i0, hi, hi3⟩ := Option.map_eq_some_iff.1 h
 simp only [Prod.mk.injEq] at hi3
 exact ⟨i0, hi, hi3⟩
theorem info54 : ∃ i0 : TypeInfo, Tryz.prog.info? 80 = some i0 ∧ i0.zero = some (.agg #[.string ⟨#[]⟩, .slice none 0 0, .int .i64 0, .slice none 0 0, .int .i64 0]) ∧ i0.size = 5 ∧ i0.bytes = 80 := by
 have h : (Tryz.prog.info? 80).map (fun i => (i.zero, i.size, i.bytes)) = some (some (.agg #[.string ⟨#[]⟩, .slice none 0 0, .int .i64 0, .slice none 0 0, .int .i64 0]), 5, 80) := by kernel_rfl
 obtain ⟨i0, hi, hi3⟩ := Option.map_eq_some_iff.1 h
 simp only [Prod.mk.injEq] at hi3
 exact ⟨i0, hi, hi3⟩
theorem P5.add4 {rb e dp pb base : Nat} {wr w2 : World} {v0 v1 v2 v3 v4 : Value} {p : Pg} {l2 : List Tok} {i2 : Nat} (h : P5 pb base wr v0 v1 v2 v3 v4 p) (hb : base ≤ wr.heap.size) (hrp : rb < pb) (k2 : Kp rb wr w2) (hR : Rd rb e w2 l2 i2 dp) {x : Cls} {cs : List Value} (hl : cs.length = 5) (h1 : ∀ c ∈ cs, c.oneCell' = true) {S : Nat → Prop} (hx : PCl S w2 cs x) (hS : ∀ b, S b → wr.heap.size ≤ b) (hf : p.clauses.length ≤ 65536) (zb : Nat) (hzb : w2.heap[zb]? = some (.cells cs.toArray 80 (0, 0))) :
  ∃ r w8, (Builtin.append_ #[26, 26] 26 #[v4, .slice (some ⟨zb, 0, none⟩) 1 1]).run Tryz.prog w2 = .ok r w8 ∧ (∃ g c, r = .slice (some ⟨g, 0, none⟩) (p.clauses.length + 1) c ∧ base ≤ g ∧ g < w8.heap.size) ∧ w8.heap[pb]? = some (.cells #[v0, v1, v2, v3, v4] 28 (0, 0)) ∧
   P5 pb base (w8.setCell ⟨pb, 4, none⟩ r) v0 v1 v2 v3 r (.mk p.types p.decls p.comps p.inits (p.clauses ++ [x])) ∧ Rd rb e (w8.setCell ⟨pb, 4, none⟩ r) l2 i2 dp ∧ KB rb pb base wr (w8.setCell ⟨pb, 4, none⟩ r) := by
 obtain ⟨i0, hi, hz, hsz, hby⟩ := info54
 have ht : Tryz.prog.underlying 26 = some (.slice 80) := by kernel_rfl
 have hlt := h.lt
 have hs2 := k2.size
 have hown : ∀ b, some b = v4.ownBlock → base ≤ b ∧ b < wr.heap.size := h.r4.lt
 have hrow : Row PCl 5 80 base (fun b => P5S base v0 v1 v2 v3 v4 b ∧ b < w2.heap.size) w2 v4 p.clauses := h.r4.move Qbg k2.size (fun b hb hl _ => k2.block b hl (by omega)) (fun b hb => hb.1) (fun b hl hs => ⟨hs, by omega⟩)
 have hx2 : PCl (fun b => P5S base v0 v1 v2 v3 v4 b ∧ b < w2.heap.size) w2 cs x := Qbg.mono _ _ _ _ _ hx (fun b hl hs => by
  have hb' := hS b hs
  exact ⟨⟨by omega, fun e => by have := h.r0.lt b e; omega, fun e => by have := h.r1.lt b e; omega, fun e => by have := h.r2.lt b e; omega, fun e => by have := h.r3.lt b e; omega, fun e => by have := h.r4.lt b e; omega⟩, hl⟩)
 obtain ⟨r, w8, hr, g8, a8, ⟨g, c, er⟩, hrow8⟩ := hrow.app Qbg ht hi hz hsz hby rfl (by decide) (by decide) (fun b hs => hs.1.2.2.2.2.2) hl h1 hx2 (by omega) hf zb hzb
 have hs8 := g8.size
 have hsame : ∀ b, b < w2.heap.size → some b ≠ v4.ownBlock → w8.heap[b]? = w2.heap[b]? := fun b hb hn => g8.block b hb hn
 have hpb : pb < wr.heap.size := Qag h.box
 have box8 : w8.heap[pb]? = some (.cells #[v0, v1, v2, v3, v4] 28 (0, 0)) := (hsame pb (by omega) (fun e => by have := (hown pb e).1; omega)).trans (k2.keep h.box (by omega))
 have hrn : ∀ b, some b = r.ownBlock → some b = v4.ownBlock ∨ w2.heap.size ≤ b := fun b e => by
  rcases a8 with e2 | e2
  · exact .inl (e.trans e2)
  rw [e2] at e
  simp only [Option.some.injEq] at e
  exact .inr (by omega)
 have hset : ∀ b, b ≠ pb → (w8.setCell ⟨pb, 4, none⟩ r).heap[b]? = w8.heap[b]? := fun b hb => hpS hb
 have hsz8 : (w8.setCell ⟨pb, 4, none⟩ r).heap.size = w8.heap.size := by simp [World.setCell]
 have hSn : ∀ b, b < w2.heap.size → P5S base v0 v1 v2 v3 v4 b → P5S base v0 v1 v2 v3 r b := fun b hb hs => by
  obtain ⟨s, s0, s1, s2, s3, s4⟩ := hs
  exact ⟨s, s0, s1, s2, s3, (fun e => by rcases hrn b e with e | e; exact s4 e; omega)⟩
 have hob : ∀ b, base ≤ b → b < w2.heap.size → some b ≠ v4.ownBlock → b ≠ rb → (w8.setCell ⟨pb, 4, none⟩ r).heap[b]? = w2.heap[b]? := fun b hb hl hn _ => (hset b (by omega)).trans (hsame b hl hn)
 have hapn : ∀ v, Apt v v4 → (∀ b, some b = v.ownBlock → b < w2.heap.size) → Apt v r := fun v ha hv b e1 e2 => by
  rcases hrn b e2 with e | e
  · exact ha b e1 e
  · have := hv b e1; omega
 have hbx : (w8.setCell ⟨pb, 4, none⟩ r).heap[pb]? = some (.cells #[v0, v1, v2, v3, r] 28 (0, 0)) := (Qae box8 4 r).trans rfl
 have hgl : base ≤ g ∧ g < w8.heap.size := hrow8.lt g (by rw [er]; rfl)
 refine ⟨r, w8, hr, ⟨g, c, er, hgl⟩, box8, ⟨hbx, h.lt, ?_, ?_, ?_, ?_, ?_, h.a01, h.a02, h.a03, hapn v0 h.a04 (fun b e => by have := h.r0.lt b e; omega), h.a12, h.a13, hapn v1 h.a14 (fun b e => by have := h.r1.lt b e; omega), h.a23, hapn v2 h.a24 (fun b e => by have := h.r2.lt b e; omega), hapn v3 h.a34 (fun b e => by have := h.r3.lt b e; omega)⟩, ?_, ?_⟩
 ·
  refine (h.r0.move Qbr k2.size (S' := fun b => P5S base v0 v1 v2 v3 v4 b ∧ b < w2.heap.size) (fun b hb hl _ => k2.block b hl (by omega)) (fun b hb => hb.1) (fun b hl hs => ⟨hs, by omega⟩)).move Qbr (by omega) (fun b hb hl ho => ?_) (fun b hs => hs.1.1) (fun b _ hs => hSn b hs.2 hs.1)
  refine hob b hb hl ?_ (by omega)
  rcases ho with hs | e
  · exact hs.1.2.2.2.2.2
  · exact h.a04 b e
 ·
  refine (h.r1.move Qbq k2.size (S' := fun b => P5S base v0 v1 v2 v3 v4 b ∧ b < w2.heap.size) (fun b hb hl _ => k2.block b hl (by omega)) (fun b hb => hb.1) (fun b hl hs => ⟨hs, by omega⟩)).move Qbq (by omega) (fun b hb hl ho => ?_) (fun b hs => hs.1.1) (fun b _ hs => hSn b hs.2 hs.1)
  refine hob b hb hl ?_ (by omega)
  rcases ho with hs | e
  · exact hs.1.2.2.2.2.2
  · exact h.a14 b e
 ·
  refine (h.r2.move Qbx k2.size (S' := fun b => P5S base v0 v1 v2 v3 v4 b ∧ b < w2.heap.size) (fun b hb hl _ => k2.block b hl (by omega)) (fun b hb => hb.1) (fun b hl hs => ⟨hs, by omega⟩)).move Qbx (by omega) (fun b hb hl ho => ?_) (fun b hs => hs.1.1) (fun b _ hs => hSn b hs.2 hs.1)
  refine hob b hb hl ?_ (by omega)
  rcases ho with hs | e
  · exact hs.1.2.2.2.2.2
  · exact h.a24 b e
 ·
  refine (h.r3.move Qby k2.size (S' := fun b => P5S base v0 v1 v2 v3 v4 b ∧ b < w2.heap.size) (fun b hb hl _ => k2.block b hl (by omega)) (fun b hb => hb.1) (fun b hl hs => ⟨hs, by omega⟩)).move Qby (by omega) (fun b hb hl ho => ?_) (fun b hs => hs.1.1) (fun b _ hs => hSn b hs.2 hs.1)
  refine hob b hb hl ?_ (by omega)
  rcases ho with hs | e
  · exact hs.1.2.2.2.2.2
  · exact h.a34 b e
 · exact hrow8.move Qbg (by omega) (fun b hb _ _ => hset b (by omega)) (fun b hs => hs.1.1) (fun b _ hs => hSn b hs.2 hs.1)
 ·
  obtain ⟨v, q1, a, cap, q2, q3, q4, q5⟩ := hR.box
  have hk : ∀ b, b < base → b ≠ pb → b < w2.heap.size → (w8.setCell ⟨pb, 4, none⟩ r).heap[b]? = w2.heap[b]? := fun b hb hn hl => (hset b hn).trans (hsame b hl (fun e => by have := (hown b e).1; omega))
  refine ⟨⟨v, (hk rb (by omega) (by omega) (Qag q1)).trans q1, a, cap, q2, q3, q4, fun j t hj => ?_⟩, hR.num, hR.len, hR.end_⟩
  obtain ⟨b, o, e1, e2, e3⟩ := q5 j t hj
  exact ⟨b, o, e1, e2, e3.same (hk b (by omega) (by omega) e3.lt)⟩
 have hs := (Below.refl 0 w8).setCell (p := ⟨pb, 4, none⟩) (Nat.zero_le _) r
 refine ⟨hs.os.trans (g8.os.trans k2.os), hs.tape.trans (g8.tape.trans k2.tape), hs.output.trans (g8.output.trans k2.output), by omega, fun b hb hn hm => ?_⟩
 rw [hset b hm, hsame b (by omega) (fun e => by have := (hown b e).1; omega)]
 exact k2.block b (by omega) hn
end
section
/-- No item begins. -/
def IK {α : Type} (p : Pr α) : Prop := ∀ l i x l' i', p l i = .ok x l' i' → i' = i
section
variable {e : Nat}
theorem Qds (s : Txt) : IK (want e s) := fun l i x l' i' h => by
 unfold want at h
 split at h
 · cases h; rfl
 · cases h
theorem Qgk (ss : List Txt) : IK (choose e ss) := fun l i x l' i' h => by
 unfold choose at h
 split at h
 · cases h; rfl
 · cases h
theorem Qov : IK (nmQ e) := fun l i x l' i' h => by
 unfold nmQ at h
 split at h
 · cases h; rfl
 · cases h
theorem Qe : IK (wordQ e) := fun l i x l' i' h => by
 unfold wordQ at h
 split at h
 · cases h; rfl
 · cases h
theorem Qjb {α : Type} (why : Int) : IK (refuse (α := α) e why) := fun l i x l' i' h => by cases h
theorem Qlt {α : Type} {sep : Txt} {most : Nat} {p : Pr α} (hp : IK p) : ∀ f acc, IK (listL e sep most p f acc)
 | 0, acc, l, i, x, l', i', h => by cases h; rfl
 | f + 1, acc, l, i, x, l', i', h => by
  unfold listL at h
  split at h
  · cases h
  obtain ⟨a, l1, i1, h1, h2⟩ := Qam h
  have g1 := hp _ _ _ _ _ h1
  split at h2
  ·
   have := Qlt hp f _ _ _ _ _ _ h2
   omega
  · cases h2; exact g1
theorem Qhz {α : Type} {sep : Txt} {most : Nat} {p : Pr α} (hp : IK p) : IK (listP e sep most p) := fun _ _ _ _ _ h => Qlt hp _ _ _ _ _ _ _ h
theorem Qhx {α : Type} {op cl : Txt} {p : Pr α} (hp : IK p) : IK (encl e op cl p) := fun l i x l' i' h => by
 unfold encl at h
 obtain ⟨a, l1, i1, h1, h2⟩ := Qam h
 have g1 := Qds _ _ _ _ _ _ h1
 split at h2
 ·
  cases h2
  omega
 obtain ⟨b, l2, i2, h3, h4⟩ := Qam h2
 have g2 := Qhz hp _ _ _ _ _ h3
 obtain ⟨c, h5, _⟩ := Qav h4
 have g3 := Qds _ _ _ _ _ _ h5
 omega
theorem Qls {p : Pr Ex} {ss : List Txt} (hp : IK p) : ∀ f x, IK (joinL e p ss f x)
 | 0, x, l, i, y, l', i', h => by cases h; rfl
 | f + 1, x, l, i, y, l', i', h => by
  unfold joinL at h
  split at h
  ·
   obtain ⟨a, l1, i1, h1, h2⟩ := Qam h
   have g1 := hp _ _ _ _ _ h1
   have g2 := Qls hp f _ _ _ _ _ _ h2
   omega
  · cases h; rfl
theorem Qja {p : Pr Ex} {ss : List Txt} (hp : IK p) : IK (joined e p ss) := fun l i x l' i' h => by
 unfold joined at h
 obtain ⟨a, l1, i1, h1, h2⟩ := Qam h
 have g1 := hp _ _ _ _ _ h1
 have g2 := Qls hp _ _ _ _ _ _ _ h2
 omega
theorem Qow {E F : Pr Ex} (hE : IK E) (hF : IK F) : IK (signed e E F) := fun l i x l' i' h => by
 unfold signed at h
 obtain ⟨a, l1, i1, h1, h2⟩ := Qam h
 have g1 := Qgk _ _ _ _ _ _ h1
 split at h2
 ·
  obtain ⟨b, h3, _⟩ := Qav h2
  have := hF _ _ _ _ _ h3
  omega
 split at h2
 ·
  obtain ⟨b, l2, i2, h3, h4⟩ := Qam h2
  obtain ⟨c, h5, _⟩ := Qav h4
  have g2 := hE _ _ _ _ _ h3
  have g3 := Qds _ _ _ _ _ _ h5
  omega
 obtain ⟨b, l2, i2, h3, h4⟩ := Qam h2
 obtain ⟨c, h5, _⟩ := Qav h4
 have g2 := Qe _ _ _ _ _ h3
 have g3 := Qhx hE _ _ _ _ _ h5
 omega
theorem Qou {E F : Pr Ex} (hE : IK E) (hF : IK F) : IK (factorB e E F) := fun l i x l' i' h => by
 unfold factorB at h
 split at h
 · cases h; rfl
 split at h
 · cases h; rfl
 split at h
 ·
  split at h
  · cases h; rfl
  obtain ⟨b, h3, _⟩ := Qav h
  exact Qe _ _ _ _ _ h3
 · exact Qow hE hF _ _ _ _ _ h
theorem Qmr : ∀ d, IK (exD e d).1 ∧ IK (exD e d).2
 | 0 => ⟨Qjb 4, Qjb 4⟩
 | d + 1 => ⟨Qja (Qja (Qmr d).2), Qou (Qmr d).1 (Qmr d).2⟩
theorem Qkm (d : Nat) : IK (atomP e d) := fun l i x l' i' h => by
 unfold atomP at h
 obtain ⟨a, l1, i1, h1, h2⟩ := Qam h
 obtain ⟨b, h3, _⟩ := Qav h2
 have g1 := Qov _ _ _ _ _ h1
 have g2 := Qhx (Qmr d).1 _ _ _ _ _ h3
 omega
theorem ik_lit (d : Nat) : IK (litP e d) := fun l i x l' i' h => by
 unfold litP at h
 split at h
 ·
  obtain ⟨b, h3, _⟩ := Qav h
  have := Qkm d _ _ _ _ _ h3
  omega
 split at h
 ·
  obtain ⟨b, h3, _⟩ := Qav h
  exact Qkm d _ _ _ _ _ h3
 obtain ⟨a, l1, i1, h1, h2⟩ := Qam h
 obtain ⟨b, l2, i2, h3, h4⟩ := Qam h2
 obtain ⟨c, h5, _⟩ := Qav h4
 have g1 := (Qmr d).1 _ _ _ _ _ h1
 have g2 := Qgk _ _ _ _ _ _ h3
 have g3 := (Qmr d).1 _ _ _ _ _ h5
 omega
theorem Qlr : IK (fieldP e) := fun l i x l' i' h => by
 unfold fieldP at h
 obtain ⟨a, l1, i1, h1, h2⟩ := Qam h
 obtain ⟨b, l2, i2, h3, h4⟩ := Qam h2
 obtain ⟨c, h5, _⟩ := Qav h4
 have g1 := Qe _ _ _ _ _ h1
 have g2 := Qds _ _ _ _ _ _ h3
 have g3 := Qov _ _ _ _ _ h5
 omega
theorem ik_ctor : IK (ctorP e) := fun l i x l' i' h => by
 unfold ctorP at h
 obtain ⟨a, l1, i1, h1, h2⟩ := Qam h
 obtain ⟨b, h3, _⟩ := Qav h2
 have g1 := Qe _ _ _ _ _ h1
 have g2 := Qhx Qlr _ _ _ _ _ h3
 omega
theorem Qot (d : Nat) : IK (clauseP e d) := fun l i x l' i' h => by
 unfold clauseP at h
 obtain ⟨a, l1, i1, h1, h2⟩ := Qam h
 have g1 := Qkm d _ _ _ _ _ h1
 split at h2
 ·
  obtain ⟨b, l2, i2, h3, h4⟩ := Qam h2
  obtain ⟨c, h5, _⟩ := Qav h4
  have g2 := Qhz (ik_lit d) _ _ _ _ _ h3
  have g3 := Qds _ _ _ _ _ _ h5
  omega
 obtain ⟨c, h5, _⟩ := Qav h2
 have g3 := Qds _ _ _ _ _ _ h5
 omega
theorem ik_type : IK (typeP e) := fun l i x l' i' h => by
 unfold typeP at h
 obtain ⟨a, l1, i1, h1, h2⟩ := Qam h
 obtain ⟨b, l2, i2, h3, h4⟩ := Qam h2
 have g1 := Qe _ _ _ _ _ h1
 have g2 := Qgk _ _ _ _ _ _ h3
 split at h4
 ·
  obtain ⟨c, h5, _⟩ := Qav h4
  have g3 := Qov _ _ _ _ _ h5
  omega
 obtain ⟨c, h5, _⟩ := Qav h4
 have g3 := Qhz ik_ctor _ _ _ _ _ h5
 omega
theorem Qhy : ∀ f a b, IK (flagL e f a b)
 | 0, a, b, l, i, x, l', i', h => by cases h; rfl
 | f + 1, a, b, l, i, x, l', i', h => by
  unfold flagL at h
  split at h
  ·
   split at h
   · exact Qhy f _ _ _ _ _ _ _ h
   split at h
   · exact Qhy f _ _ _ _ _ _ _ h
   · cases h; rfl
  · cases h; rfl
theorem Qgt : ∀ f a b, Shr (flagL e f a b)
 | 0, a, b, l, i, x, l', i', h => by cases h; exact Nat.le_refl _
 | f + 1, a, b, l, i, x, l', i', h => by
  have hd := Qca l
  unfold flagL at h
  split at h
  ·
   split at h
   · exact Nat.le_trans (Qgt f _ _ _ _ _ _ _ h) hd
   split at h
   · exact Nat.le_trans (Qgt f _ _ _ _ _ _ _ h) hd
   · cases h; exact Nat.le_refl _
  · cases h; exact Nat.le_refl _
theorem ik_decl : IK (declP e) := fun l i x l' i' h => by
 unfold declP at h
 obtain ⟨a, l1, i1, h1, h2⟩ := Qam h
 obtain ⟨b, l2, i2, h3, h4⟩ := Qam h2
 obtain ⟨c, h5, _⟩ := Qav h4
 have g1 := Qe _ _ _ _ _ h1
 have g2 := Qhx Qlr _ _ _ _ _ h3
 have g3 := Qhy _ _ _ _ _ _ _ _ h5
 omega
theorem ik_init : IK (initP e) := fun l i x l' i' h => by
 unfold initP at h
 obtain ⟨a, l1, i1, h1, h2⟩ := Qam h
 obtain ⟨b, l2, i2, h3, h4⟩ := Qam h2
 obtain ⟨c, h5, _⟩ := Qav h4
 have g1 := Qe _ _ _ _ _ h1
 have g2 := Qds _ _ _ _ _ _ h3
 have g3 := Qov _ _ _ _ _ h5
 omega
/-- Something is taken. -/
def Sst {α : Type} (p : Pr α) : Prop := ∀ l i x l' i', p l i = .ok x l' i' → l'.length < l.length
theorem Qno {l : List Tok} (h : l ≠ []) : (l.drop 1).length < l.length := by
 cases l with
 | nil => exact absurd rfl h
 | cons t l => simp
theorem sst_nm : Sst (nmQ e) := fun l i x l' i' h => by
 unfold nmQ at h
 split at h
 · next hk => cases h; exact Qno (fun e => by subst e; simp [ahd] at hk)
 · cases h
theorem Qgf : Sst (wordQ e) := fun l i x l' i' h => by
 unfold wordQ at h
 split at h
 · next hk => cases h; exact Qno (fun e => by subst e; simp [ahd, isW1] at hk)
 · cases h
theorem Qso (d : Nat) : Sst (atomP e d) := fun l i x l' i' h => by
 unfold atomP at h
 obtain ⟨a, l1, i1, h1, h2⟩ := Qam h
 obtain ⟨b, h3, _⟩ := Qav h2
 have g1 := sst_nm _ _ _ _ _ h1
 have g2 := Qfc (Qee d).1 _ _ _ _ _ h3
 omega
theorem Qnb (d : Nat) : Sst (clauseP e d) := fun l i x l' i' h => by
 unfold clauseP at h
 obtain ⟨a, l1, i1, h1, h2⟩ := Qam h
 have g1 := Qso d _ _ _ _ _ h1
 split at h2
 ·
  obtain ⟨b, l2, i2, h3, h4⟩ := Qam h2
  obtain ⟨c, h5, _⟩ := Qav h4
  have g2 := Qgc (Qqt d) _ _ _ _ _ h3
  have g3 := Qct _ _ _ _ _ _ h5
  have := Qca l1
  omega
 obtain ⟨c, h5, _⟩ := Qav h2
 have g3 := Qct _ _ _ _ _ _ h5
 omega
theorem Qsr : Sst (typeP e) := fun l i x l' i' h => by
 unfold typeP at h
 obtain ⟨a, l1, i1, h1, h2⟩ := Qam h
 obtain ⟨b, l2, i2, h3, h4⟩ := Qam h2
 have g1 := Qgf _ _ _ _ _ h1
 have g2 := Qfn _ _ _ _ _ _ h3
 have := Qca l
 split at h4
 ·
  obtain ⟨c, h5, _⟩ := Qav h4
  have g3 := Qk _ _ _ _ _ h5
  omega
 obtain ⟨c, h5, _⟩ := Qav h4
 have g3 := Qgc Qsn _ _ _ _ _ h5
 omega
theorem Qsp : Sst (declP e) := fun l i x l' i' h => by
 unfold declP at h
 obtain ⟨a, l1, i1, h1, h2⟩ := Qam h
 obtain ⟨b, l2, i2, h3, h4⟩ := Qam h2
 obtain ⟨c, h5, _⟩ := Qav h4
 have g1 := Qgf _ _ _ _ _ h1
 have g2 := Qfc Qjx _ _ _ _ _ h3
 have g3 := Qgt _ _ _ _ _ _ _ _ h5
 have := Qca l
 omega
theorem Qsq : Sst (initP e) := fun l i x l' i' h => by
 unfold initP at h
 obtain ⟨a, l1, i1, h1, h2⟩ := Qam h
 obtain ⟨b, l2, i2, h3, h4⟩ := Qam h2
 obtain ⟨c, h5, _⟩ := Qav h4
 have g1 := Qgf _ _ _ _ _ h1
 have g2 := Qct _ _ _ _ _ _ h3
 have g3 := Qk _ _ _ _ _ h5
 have := Qca l
 omega
/-- A component, where d more may be begun. -/
def compC (e : Nat) : Nat → Pr (Txt × List Txt × Pg × Int)
 | 0 => refuse e 4
 | d + 1 => compB e (progD e d false)
theorem Qm (d : Nat) (top : Bool) (l : List Tok) (i : Nat) : progD e d top l i = progL e top d (compC e d) (l.length + 1) .none l i := by cases d <;> rfl
def Gr {α : Type} (p : Pr α) : Prop := ∀ l i x l' i', p l i = .ok x l' i' → l'.length ≤ l.length ∧ i ≤ i' ∧ (i ≤ 96 → i' ≤ 96)
def GrS {α : Type} (p : Pr α) : Prop := ∀ l i x l' i', p l i = .ok x l' i' → l'.length < l.length ∧ i ≤ i' ∧ (i ≤ 96 → i' ≤ 96)
/-- The lists of a program are no longer than n. -/
def Few (p : Pg) (n : Nat) : Prop := p.types.length ≤ n ∧ p.decls.length ≤ n ∧ p.comps.length ≤ n ∧ p.inits.length ≤ n ∧ p.clauses.length ≤ n
theorem Qok {p : Pg} {n m : Nat} (h : Few p n) (hm : n + 1 ≤ m) (x : Typ) : Few (.mk (p.types ++ [x]) p.decls p.comps p.inits p.clauses) m := by
 obtain ⟨f0, f1, f2, f3, f4⟩ := h
 exact ⟨by show (p.types ++ [x]).length ≤ m; rw [List.length_append, List.length_singleton]; omega, Nat.le_trans f1 (by omega), Nat.le_trans f2 (by omega), Nat.le_trans f3 (by omega), Nat.le_trans f4 (by omega)⟩
theorem Qoi {p : Pg} {n m : Nat} (h : Few p n) (hm : n + 1 ≤ m) (x : Dcl) : Few (.mk p.types (p.decls ++ [x]) p.comps p.inits p.clauses) m := by
 obtain ⟨f0, f1, f2, f3, f4⟩ := h
 exact ⟨Nat.le_trans f0 (by omega), by show (p.decls ++ [x]).length ≤ m; rw [List.length_append, List.length_singleton]; omega, Nat.le_trans f2 (by omega), Nat.le_trans f3 (by omega), Nat.le_trans f4 (by omega)⟩
theorem Qoh {p : Pg} {n m : Nat} (h : Few p n) (hm : n + 1 ≤ m) (x : (Txt × List Txt × Pg × Int)) : Few (.mk p.types p.decls (p.comps ++ [x]) p.inits p.clauses) m := by
 obtain ⟨f0, f1, f2, f3, f4⟩ := h
 exact ⟨Nat.le_trans f0 (by omega), Nat.le_trans f1 (by omega), by show (p.comps ++ [x]).length ≤ m; rw [List.length_append, List.length_singleton]; omega, Nat.le_trans f3 (by omega), Nat.le_trans f4 (by omega)⟩
theorem Qoj {p : Pg} {n m : Nat} (h : Few p n) (hm : n + 1 ≤ m) (x : Ini) : Few (.mk p.types p.decls p.comps (p.inits ++ [x]) p.clauses) m := by
 obtain ⟨f0, f1, f2, f3, f4⟩ := h
 exact ⟨Nat.le_trans f0 (by omega), Nat.le_trans f1 (by omega), Nat.le_trans f2 (by omega), by show (p.inits ++ [x]).length ≤ m; rw [List.length_append, List.length_singleton]; omega, Nat.le_trans f4 (by omega)⟩
theorem Qkl {p : Pg} {n m : Nat} (h : Few p n) (hm : n + 1 ≤ m) (x : Cls) : Few (.mk p.types p.decls p.comps p.inits (p.clauses ++ [x])) m := by
 obtain ⟨f0, f1, f2, f3, f4⟩ := h
 exact ⟨Nat.le_trans f0 (by omega), Nat.le_trans f1 (by omega), Nat.le_trans f2 (by omega), Nat.le_trans f3 (by omega), by show (p.clauses ++ [x]).length ≤ m; rw [List.length_append, List.length_singleton]; omega⟩
theorem Qi {d : Nat} {C : Pr (Txt × List Txt × Pg × Int)} (hC : GrS C) {p q : Pg} {l l' : List Tok} {i i' : Nat} (h : itemP e d C p l i = .ok q l' i') : l'.length < l.length ∧ i < i' ∧ (i ≤ 96 → i' ≤ 96) ∧ (Few p i → Few q i') := by
 unfold itemP at h
 split at h
 · cases h
 split at h
 ·
  obtain ⟨x, h1, rfl⟩ := Qav h
  have g1 := Qsr _ _ _ _ _ h1
  have g2 := ik_type _ _ _ _ _ h1
  exact ⟨g1, by omega, by omega, fun hf => Qok hf (by omega) x⟩
 split at h
 ·
  obtain ⟨x, h1, rfl⟩ := Qav h
  have g1 := Qsp _ _ _ _ _ h1
  have g2 := ik_decl _ _ _ _ _ h1
  exact ⟨g1, by omega, by omega, fun hf => Qoi hf (by omega) x⟩
 split at h
 ·
  obtain ⟨x, h1, rfl⟩ := Qav h
  obtain ⟨g1, g2, g3⟩ := hC _ _ _ _ _ h1
  exact ⟨g1, by omega, by omega, fun hf => Qoh hf (by omega) x⟩
 split at h
 ·
  obtain ⟨x, h1, rfl⟩ := Qav h
  have g1 := Qsq _ _ _ _ _ h1
  have g2 := ik_init _ _ _ _ _ h1
  exact ⟨g1, by omega, by omega, fun hf => Qoj hf (by omega) x⟩
 obtain ⟨x, h1, rfl⟩ := Qav h
 have g1 := Qnb _ _ _ _ _ _ h1
 have g2 := Qot _ _ _ _ _ _ h1
 exact ⟨g1, by omega, by omega, fun hf => Qkl hf (by omega) x⟩
theorem Qma {d : Nat} {top : Bool} {C : Pr (Txt × List Txt × Pg × Int)} (hC : GrS C) : ∀ f p, Gr (progL e top d C f p)
 | 0, p, l, i, x, l', i', h => by cases h; exact ⟨Nat.le_refl _, Nat.le_refl _, fun h => h⟩
 | f + 1, p, l, i, x, l', i', h => by
  unfold progL at h
  split at h
  · cases h; exact ⟨Nat.le_refl _, Nat.le_refl _, fun h => h⟩
  obtain ⟨a, l1, i1, h1, h2⟩ := Qam h
  obtain ⟨g1, g2, g3, _⟩ := Qi hC h1
  obtain ⟨k1, k2, k3⟩ := Qma hC f _ _ _ _ _ _ h2
  exact ⟨by omega, by omega, fun hi => k3 (g3 hi)⟩
theorem comp_gr {B : Pr Pg} (hB : Gr B) : GrS (compB e B) := fun l i x l' i' h => by
 unfold compB at h
 obtain ⟨a, l1, i1, h1, h2⟩ := Qam h
 obtain ⟨b, l2, i2, h3, h4⟩ := Qam h2
 obtain ⟨c, l3, i3, h5, h6⟩ := Qam h4
 obtain ⟨q, l4, i4, h7, h8⟩ := Qam h6
 obtain ⟨r, h9, _⟩ := Qav h8
 have g1 := Qgf _ _ _ _ _ h1
 have g1' := Qe _ _ _ _ _ h1
 have gb : l2.length ≤ l1.length ∧ i2 = i1 := by
  split at h3
  ·
   have := Qgc Qk _ _ _ _ _ h3
   have := Qhz Qov _ _ _ _ _ h3
   have := Qca l1
   exact ⟨by omega, by omega⟩
  · cases h3; exact ⟨Nat.le_refl _, rfl⟩
 have g3 := Qct _ _ _ _ _ _ h5
 have g3' := Qds _ _ _ _ _ _ h5
 obtain ⟨g4, g5, g6⟩ := hB _ _ _ _ _ h7
 have g7 := Qct _ _ _ _ _ _ h9
 have g7' := Qds _ _ _ _ _ _ h9
 have := Qca l
 exact ⟨by omega, by omega, by omega⟩
theorem Qlf : ∀ d, GrS (compC e d)
 | 0 => fun _ _ _ _ _ h => by cases h
 | d + 1 => comp_gr (fun l i x l' i' h => by rw [Qm] at h; exact Qma (Qlf d) _ _ _ _ _ _ _ h)
end
end
section
open Go.RowKit Go.Maps
abbrev coZ : Obj := .cells #[.string ⟨#[]⟩, .slice none 0 0, .slice none 0 0, .slice none 0 0, .slice none 0 0, .slice none 0 0, .slice none 0 0, .int .i64 0] 68
theorem cl8 {w : World} {b : Nat} {T : TypeId} {v0 v1 v2 v3 v4 v5 v6 v7 : Value} (h : w.heap[b]? = some (.cells #[v0, v1, v2, v3, v4, v5, v6, v7] T (0, 0))) :
  w.cell? ⟨b, 0, none⟩ = some v0 ∧ w.cell? ⟨b, 1, none⟩ = some v1 ∧ w.cell? ⟨b, 2, none⟩ = some v2 ∧ w.cell? ⟨b, 3, none⟩ = some v3 ∧ w.cell? ⟨b, 4, none⟩ = some v4 ∧ w.cell? ⟨b, 5, none⟩ = some v5 ∧ w.cell? ⟨b, 6, none⟩ = some v6 ∧ w.cell? ⟨b, 7, none⟩ = some v7 ∧ ∀ o, w.frozen? ⟨b, o, none⟩ = false :=
 ⟨(Qad h 0).trans rfl, (Qad h 1).trans rfl, (Qad h 2).trans rfl, (Qad h 3).trans rfl, (Qad h 4).trans rfl, (Qad h 5).trans rfl, (Qad h 6).trans rfl, (Qad h 7).trans rfl, fun o => by simp [World.frozen?, h]⟩
def coStore (p v : Value) : Sem Unit := Instr.storeAt 68 p v
theorem Qej (p v : Value) : Instr.storeAt 68 p v = coStore p v := rfl
def coLoad (x : Value) : Sem Value := Instr.loadAt 68 x
theorem Qev (x : Value) : Instr.loadAt 68 x = coLoad x := rfl
theorem Qqv : (Tryz.prog.info? 68).map (·.size) = some 8 := by kernel_rfl
theorem LsAt.sl {α : Type} {p : PS α} {k : Nat} {S : Nat → Prop} {w : World} {v : Value} {xs : List α} (h : LsAt p k S w v xs) : ∃ a c, v = .slice a xs.length c := by
 obtain ⟨a, c, _, e, _⟩ := h
 exact ⟨a, c, e⟩
theorem Qpx {S : Nat → Prop} {w : World} {cs : List Value} {x : Cp} (h : PCo S w cs x) : ∀ c ∈ cs, c.oneCell' = true := by
 obtain ⟨vb, bd, rfl, h2, h3, h4⟩ := h
 obtain ⟨v0, v1, v2, v3, v4, rfl, g0, g1, g2, g3, g4⟩ := h4.cells
 obtain ⟨_, _, rfl⟩ := h3.sl
 obtain ⟨_, _, rfl⟩ := g0.sl
 obtain ⟨_, _, rfl⟩ := g1.sl
 obtain ⟨_, _, rfl⟩ := g2.sl
 obtain ⟨_, _, rfl⟩ := g3.sl
 obtain ⟨_, _, rfl⟩ := g4.sl
 simp [Value.oneCell', str]
def VPg (S : Nat → Prop) (w : World) (v : Value) (x : Pg) : Prop := ∃ a0 n0 c0 a1 n1 c1 a2 n2 c2 a3 n3 c3 a4 n4 c4, v = .agg #[.slice a0 n0 c0, .slice a1 n1 c1, .slice a2 n2 c2, .slice a3 n3 c3, .slice a4 n4 c4] ∧ PgS S w [.slice a0 n0 c0, .slice a1 n1 c1, .slice a2 n2 c2, .slice a3 n3 c3, .slice a4 n4 c4] x
def VCo (S : Nat → Prop) (w : World) (v : Value) (x : Cp) : Prop := ∃ ba bn bc a0 n0 c0 a1 n1 c1 a2 n2 c2 a3 n3 c3 a4 n4 c4, v = .agg #[str x.1, .slice ba bn bc, .slice a0 n0 c0, .slice a1 n1 c1, .slice a2 n2 c2, .slice a3 n3 c3, .slice a4 n4 c4, .int .i64 x.2.2.2] ∧ PCo S w [str x.1, .slice ba bn bc, .slice a0 n0 c0, .slice a1 n1 c1, .slice a2 n2 c2, .slice a3 n3 c3, .slice a4 n4 c4, .int .i64 x.2.2.2] x
end
section
open Go.RowKit Go.Maps
attribute [local go_sem ↓] Qej Qev
end
end Go.Proofs.YtjebglmpopijhaaGreatDoor
