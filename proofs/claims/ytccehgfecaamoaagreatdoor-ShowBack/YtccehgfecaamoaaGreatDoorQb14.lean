/- syn: a program in memory. -/
import Derived.Test.YtccehgfecaamoaaGreatDoorQb13
set_option maxRecDepth 100000
set_option maxHeartbeats 32000000
namespace Go.Proofs.YtccehgfecaamoaaGreatDoor
section
open Go.RowKit Go.Maps
def PTy : PS Typ := fun S w cs x => ∃ xa xn xc, cs = [str x.name, str x.sub, .slice xa xn xc, .int .i64 x.at_] ∧ LsAt PC 2 S w (.slice xa xn xc) x.ctors
theorem Qbq : PSok PTy where
 mono := fun _ _ _ _ _ ⟨xa, xn, xc, h1, h2⟩ hS => ⟨xa, xn, xc, h1, h2.mono Qex hS⟩
 same := fun _ _ _ _ _ ⟨xa, xn, xc, h1, h2⟩ hs hb => ⟨xa, xn, xc, h1, h2.same Qex hs hb⟩
def PDc : PS Dcl := fun S w cs x => ∃ xa xn xc, cs = [str x.name, .slice xa xn xc, .bool x.input, .bool x.output, .int .i64 x.at_] ∧ LsAt PF 2 S w (.slice xa xn xc) x.cols
theorem Qbp : PSok PDc where
 mono := fun _ _ _ _ _ ⟨xa, xn, xc, h1, h2⟩ hS => ⟨xa, xn, xc, h1, h2.mono Qbv hS⟩
 same := fun _ _ _ _ _ ⟨xa, xn, xc, h1, h2⟩ hs hb => ⟨xa, xn, xc, h1, h2.same Qbv hs hb⟩
def PIn : PS Ini := fun _ _ cs x => cs = [str x.name, str x.comp, .int .i64 x.at_]
theorem Qbw : PSok PIn where
 mono := fun _ _ _ _ _ h _ => h
 same := fun _ _ _ _ _ h _ _ => h
def PCl : PS Cls := fun S w cs x => ∃ aa an ac ba bn bc, cs = [str x.head.rel, .slice aa an ac, .int .i64 x.head.at_, .slice ba bn bc, .int .i64 x.at_] ∧ LsAt PE 5 S w (.slice aa an ac) x.head.args ∧ LsAt PLt 16 S w (.slice ba bn bc) x.body
theorem Qbg : PSok PCl where
 mono := fun _ _ _ _ _ ⟨aa, an, ac, ba, bn, bc, h1, h2, h3⟩ hS => ⟨aa, an, ac, ba, bn, bc, h1, h2.mono Qae hS, h3.mono Qbt hS⟩
 same := fun _ _ _ _ _ ⟨aa, an, ac, ba, bn, bc, h1, h2, h3⟩ hs hb => ⟨aa, an, ac, ba, bn, bc, h1, h2.same Qae hs hb, h3.same Qbt hs hb⟩
def PSt : PS Txt := fun _ _ cs x => cs = [str x]
theorem Qbj : PSok PSt where
 mono := fun _ _ _ _ _ h _ => h
 same := fun _ _ _ _ _ h _ _ => h
theorem Jb {rb e dp : Nat} : PartS PSt rb e dp (nmQ e) := fun w l it hR => by
 refine (Qgf hR).mono ?_
 intro en w' ha
 cases hq : nmQ e l it with
 | bad why at0 l2 => rw [hq] at ha; exact ha
 | ok x l2 i2 =>
  rw [hq] at ha
  obtain ⟨v, e1, e2, h3, h4⟩ := ha
  exact ⟨v, e1, ⟨x, e2, by simp [Value.oneCell', str], rfl⟩, h3, h4⟩
abbrev Cp := Txt × List Txt × Pg × Int
inductive PgS (S : Nat → Prop) (w : World) : List Value → Pg → Prop
 | mk (ts : List Typ) (ds : List Dcl) (cs : List Cp) (is : List Ini) (ls : List Cls) (vt vd vi vl : Value) (ao : Option Addr) (cap : Nat) (css : List (List Value)) (vb : Nat → Value) (bd : Nat → List Value)
   (hT : LsAt PTy 4 S w vt ts) (hD : LsAt PDc 5 S w vd ds) (hI : LsAt PIn 3 S w vi is) (hL : LsAt PCl 5 S w vl ls)
   (h1 : cs.length ≤ cap) (h2 : cap ≤ maxLen) (h3 : css.length = cs.length)
   (h4 : ∀ (j : Nat) (x : Cp), cs[j]? = some x → css[j]? = some (str x.1 :: vb j :: (bd j ++ [.int .i64 x.2.2.2])) ∧ (bd j).length = 5 ∧ LsAt PSt 1 S w (vb j) x.2.1)
   (h6 : ∀ (j : Nat) (x : Cp), cs[j]? = some x → PgS S w (bd j) x.2.2.1)
   (h5 : cs ≠ [] → ∃ b, ao = some ⟨b, 0, none⟩ ∧ S b ∧ b < w.heap.size ∧ ∀ j c, css.flatten[j]? = some c → w.cell? ⟨b, j, none⟩ = some c) :
   PgS S w [vt, vd, .slice ao cs.length cap, vi, vl] (.mk ts ds cs is ls)
theorem Qao : PSok (α := Pg) (fun S w cs x => PgS S w cs x) where
 mono := fun S S' w cs x h hS => by
  induction h with
  | mk ts ds cs is ls vt vd vi vl ao cap css vb bd hT hD hI hL h1 h2 h3 h4 h6 h5 ih =>
   refine .mk ts ds cs is ls vt vd vi vl ao cap css vb bd (hT.mono Qbq hS) (hD.mono Qbp hS) (hI.mono Qbw hS) (hL.mono Qbg hS) h1 h2 h3 (fun j x hj => ⟨(h4 j x hj).1, (h4 j x hj).2.1, (h4 j x hj).2.2.mono Qbj hS⟩) ih (fun hn => ?_)
   obtain ⟨b, e1, e2, e3, e4⟩ := h5 hn
   exact ⟨b, e1, hS b e3 e2, e3, e4⟩
 same := fun S w w' cs x h hs hb => by
  induction h with
  | mk ts ds cs is ls vt vd vi vl ao cap css vb bd hT hD hI hL h1 h2 h3 h4 h6 h5 ih =>
   refine .mk ts ds cs is ls vt vd vi vl ao cap css vb bd (hT.same Qbq hs hb) (hD.same Qbp hs hb) (hI.same Qbw hs hb) (hL.same Qbg hs hb) h1 h2 h3 (fun j x hj => ⟨(h4 j x hj).1, (h4 j x hj).2.1, (h4 j x hj).2.2.same Qbj hs hb⟩) ih (fun hn => ?_)
   obtain ⟨b, e1, e2, e3, e4⟩ := h5 hn
   refine ⟨b, e1, e2, by omega, fun j c hj => ?_⟩
   have := e4 j c hj
   simp only [World.cell?] at this ⊢
   rw [hb b e2 e3]; exact this
def PCo : PS Cp := fun S w cs x => ∃ vb bd, cs = str x.1 :: vb :: (bd ++ [.int .i64 x.2.2.2]) ∧ bd.length = 5 ∧ LsAt PSt 1 S w vb x.2.1 ∧ PgS S w bd x.2.2.1
theorem Qbb : PSok PCo where
 mono := fun _ _ _ _ _ ⟨vb, bd, h1, h2, h3, h4⟩ hS => ⟨vb, bd, h1, h2, h3.mono Qbj hS, Qao.mono _ _ _ _ _ h4 hS⟩
 same := fun _ _ _ _ _ ⟨vb, bd, h1, h2, h3, h4⟩ hs hb => ⟨vb, bd, h1, h2, h3.same Qbj hs hb, Qao.same _ _ _ _ _ h4 hs hb⟩
theorem Jcy {S : Nat → Prop} {w : World} {ts : List Typ} {ds : List Dcl} {cs : List Cp} {is : List Ini} {ls : List Cls} {vt vd vc vi vl : Value} (hT : LsAt PTy 4 S w vt ts) (hD : LsAt PDc 5 S w vd ds) (hC : LsAt PCo 8 S w vc cs) (hI : LsAt PIn 3 S w vi is) (hL : LsAt PCl 5 S w vl ls) : PgS S w [vt, vd, vc, vi, vl] (.mk ts ds cs is ls) := by
 obtain ⟨ao, cap, css, rfl, h1, h2, h3, h5⟩ := hC
 have hch : ∀ j : Nat, ∃ q : Value × List Value, ∀ x : Cp, cs[j]? = some x → css[j]? = some (str x.1 :: q.1 :: (q.2 ++ [.int .i64 x.2.2.2])) ∧ q.2.length = 5 ∧ LsAt PSt 1 S w q.1 x.2.1 ∧ PgS S w q.2 x.2.2.1 := fun j => by
  by_cases hj : j < cs.length
  ·
   have hj2 : j < css.length := by rw [h3.1]; exact hj
   obtain ⟨_, vb, bd, e1, e2, e3, e4⟩ := h3.2 j cs[j] css[j] (List.getElem?_eq_getElem hj) (List.getElem?_eq_getElem hj2)
   refine ⟨(vb, bd), fun x hx => ?_⟩
   rw [List.getElem?_eq_getElem hj] at hx
   cases hx
   exact ⟨by rw [List.getElem?_eq_getElem hj2, e1], e2, e3, e4⟩
  · exact ⟨(.int .i64 0, []), fun x hx => absurd (List.getElem?_eq_some_iff.1 hx).1 hj⟩
 obtain ⟨q, hq⟩ := Classical.axiomOfChoice hch
 exact .mk ts ds cs is ls vt vd vi vl ao cap css (fun j => (q j).1) (fun j => (q j).2) hT hD hI hL h1 h2 h3.1 (fun j x hx => ⟨(hq j x hx).1, (hq j x hx).2.1, (hq j x hx).2.2.1⟩) (fun j x hx => (hq j x hx).2.2.2) h5
theorem PgS.cells {S : Nat → Prop} {w : World} {v : List Value} {p : Pg} (h : PgS S w v p) : ∃ vt vd vc vi vl, v = [vt, vd, vc, vi, vl] ∧ LsAt PTy 4 S w vt p.types ∧ LsAt PDc 5 S w vd p.decls ∧ LsAt PCo 8 S w vc p.comps ∧ LsAt PIn 3 S w vi p.inits ∧ LsAt PCl 5 S w vl p.clauses := by
 cases h with
 | mk ts ds cs is ls vt vd vi vl ao cap css vb bd hT hD hI hL h1 h2 h3 h4 h6 h5 =>
  refine ⟨_, _, _, _, _, rfl, hT, hD, ⟨ao, cap, css, rfl, h1, h2, ⟨h3, fun j x c hx hc => ?_⟩, h5⟩, hI, hL⟩
  obtain ⟨e1, e2, e3⟩ := h4 j x hx
  rw [e1] at hc
  cases hc
  exact ⟨by simp [e2], vb j, bd j, rfl, e2, e3, h6 j x hx⟩

def Row {α : Type} (p : PS α) (k : Nat) (T : TypeId) (base : Nat) (S : Nat → Prop) (w : World) (sl : Value) (acc : List α) : Prop := ∃ css, w.ownsRow base T k sl acc.length css.flatten ∧ All p k S w css acc
section
variable {α : Type} {p : PS α} {k : Nat} {T : TypeId} {base : Nat}
theorem Row.nil (S : Nat → Prop) (w : World) : Row p k T base S w (.slice none 0 0) [] := ⟨[], World.ownsRow_nil _ _ _ _, ⟨rfl, fun j x cs hx => by simp at hx⟩⟩
theorem Row.lt {S : Nat → Prop} {w : World} {sl : Value} {acc : List α} (h : Row p k T base S w sl acc) : ∀ b, some b = sl.ownBlock → base ≤ b ∧ b < w.heap.size := fun b e => by
 obtain ⟨css, ho, _⟩ := h
 exact World.ownsRow.lt ho b e.symm
theorem Row.slice {S : Nat → Prop} {w : World} {sl : Value} {acc : List α} (h : Row p k T base S w sl acc) : ∃ a c, sl = .slice a acc.length c := by
 obtain ⟨css, ho, _⟩ := h
 rcases ho.2 with ⟨e, e2⟩ | ⟨g, cap, cur, e, _⟩
 · exact ⟨none, 0, by rw [e, e2]⟩
 · exact ⟨_, _, e⟩
theorem Row.move (hp : PSok p) {S S' : Nat → Prop} {w w' : World} {sl : Value} {acc : List α} (h : Row p k T base S w sl acc) (hs : w.heap.size ≤ w'.heap.size) (hb : ∀ b, base ≤ b → b < w.heap.size → (S b ∨ some b = sl.ownBlock) → w'.heap[b]? = w.heap[b]?) (hB : ∀ b, S b → base ≤ b) (hS : ∀ b, b < w.heap.size → S b → S' b) : Row p k T base S' w' sl acc := by
 obtain ⟨css, ho, ha⟩ := h
 refine ⟨css, ⟨ho.1, ?_⟩, ?_⟩
 ·
  rcases ho.2 with e | ⟨g, cap, cur, e1, e2, e3, e4⟩
  · exact .inl e
  · exact .inr ⟨g, cap, cur, e1, e2, (hb g e2 (Qag e3) (.inr (by rw [e1]; rfl))).trans e3, e4⟩
 have h2 := (ha.mono hp (fun b hl hs => (⟨hs, hl⟩ : S b ∧ b < w.heap.size))).same hp hs (fun b hs hl => hb b (hB b hs.1) hl (.inl hs.1))
 exact h2.mono hp (fun b _ hs => hS b hs.2 hs.1)
theorem Row.ls {S : Nat → Prop} {w : World} {sl : Value} {acc : List α} (hp : PSok p) (h : Row p k T base S w sl acc) (hS : ∀ b, S b → base ≤ b) : LsAt p k (fun b => base ≤ b) w sl acc := by
 obtain ⟨css, ho, ha⟩ := h
 exact LsAt.of ho (ha.mono hp (fun b _ hs => hS b hs))
theorem Row.app (hp : PSok p) {ST : TypeId} {i0 : TypeInfo} {z : Value} {by_ : Nat} (ht : Tryz.prog.underlying ST = some (.slice T)) (hi : Tryz.prog.info? T = some i0) (hz : i0.zero = some z) (hsz : i0.size = k) (hby : i0.bytes = by_) (hzc : z.cells.size = k) (hk : 0 < k) (hb6 : by_ ≤ 1000)
  {S : Nat → Prop} {w2 : World} {sl : Value} {acc : List α} (h : Row p k T base S w2 sl acc) (hS : ∀ b, S b → some b ≠ sl.ownBlock) {x : α} {cs : List Value} (hl : cs.length = k) (h1 : ∀ c ∈ cs, c.oneCell' = true) (hx : p S w2 cs x) (hbase : base ≤ w2.heap.size) (hf : acc.length ≤ 65536) (zb : Nat) (hzb : w2.heap[zb]? = some (.cells cs.toArray T (0, 0))) :
  ∃ r w8, (Builtin.append_ #[ST, ST] ST #[sl, .slice (some ⟨zb, 0, none⟩) 1 1]).run Tryz.prog w2 = .ok r w8 ∧ w2.grownBy w8 sl.ownBlock ∧ (r.ownBlock = sl.ownBlock ∨ r.ownBlock = some w2.heap.size) ∧ (∃ g c, r = .slice (some ⟨g, 0, none⟩) (acc.length + 1) c) ∧ Row p k T base S w8 r (acc ++ [x]) := by
 obtain ⟨css, ho, ha⟩ := h
 obtain ⟨r, w8, hr, o8, g8, _, a8⟩ := run_append_own_at (P := Tryz.prog) w2 base ST ST T i0 z k by_ ht hi hz hsz hby hzc hk sl acc.length css.flatten ho ⟨zb, 0, none⟩ 1 1 cs (by rw [hl, Nat.one_mul]) (fun j u hj => by
  have e1 : (⟨zb, 0, none⟩ : Addr).add j = ⟨zb, j, none⟩ := by cases j <;> simp [Addr.add]
  rw [e1, Qab hzb]
  simpa using hj) h1 (by unfold maxLen; omega) (by
  have h3 : acc.length + 1 ≤ 65537 := by omega
  have := Nat.mul_le_mul h3 hb6
  omega) hbase
 refine ⟨r, w8, hr, g8, a8, ?_, css ++ [cs], by rw [List.length_append]; simpa using o8, ?_⟩
 ·
  rcases o8.2 with ⟨_, e⟩ | ⟨g, cap, cur, e, _⟩
  · omega
  · exact ⟨_, _, e⟩
 have hsm : ∀ b, S b → b < w2.heap.size → w8.heap[b]? = w2.heap[b]? := fun b hs hlt => g8.block b hlt (hS b hs)
 exact (ha.same hp g8.size hsm).snoc hl (hp.same _ _ _ _ _ hx g8.size hsm)
end
def P5S (base : Nat) (v0 v1 v2 v3 v4 : Value) (b : Nat) : Prop := base ≤ b ∧ some b ≠ v0.ownBlock ∧ some b ≠ v1.ownBlock ∧ some b ≠ v2.ownBlock ∧ some b ≠ v3.ownBlock ∧ some b ≠ v4.ownBlock
def Apt (u v : Value) : Prop := ∀ b, some b = u.ownBlock → some b ≠ v.ownBlock
theorem Apt.symm {u v : Value} (h : Apt u v) : Apt v u := fun b e1 e2 => h b e2 e1
structure P5 (pb base : Nat) (w : World) (v0 v1 v2 v3 v4 : Value) (p : Pg) : Prop where
 box : w.heap[pb]? = some (.cells #[v0, v1, v2, v3, v4] 28 (0, 0))
 lt : pb < base
 r0 : Row PTy 4 94 base (P5S base v0 v1 v2 v3 v4) w v0 p.types
 r1 : Row PDc 5 99 base (P5S base v0 v1 v2 v3 v4) w v1 p.decls
 r2 : Row PCo 8 72 base (P5S base v0 v1 v2 v3 v4) w v2 p.comps
 r3 : Row PIn 3 77 base (P5S base v0 v1 v2 v3 v4) w v3 p.inits
 r4 : Row PCl 5 64 base (P5S base v0 v1 v2 v3 v4) w v4 p.clauses
 a01 : Apt v0 v1
 a02 : Apt v0 v2
 a03 : Apt v0 v3
 a04 : Apt v0 v4
 a12 : Apt v1 v2
 a13 : Apt v1 v3
 a14 : Apt v1 v4
 a23 : Apt v2 v3
 a24 : Apt v2 v4
 a34 : Apt v3 v4
structure KB (rb pb base : Nat) (w w' : World) : Prop where
 os : w'.os = w.os
 tape : w'.tape = w.tape
 output : w'.output = w.output
 size : w.heap.size ≤ w'.heap.size
 block : ∀ k, k < base → k ≠ rb → k ≠ pb → w'.heap[k]? = w.heap[k]?
theorem KB.trans {rb pb base : Nat} {a b c : World} (h : KB rb pb base a b) (k : KB rb pb base b c) : KB rb pb base a c := ⟨k.os.trans h.os, k.tape.trans h.tape, k.output.trans h.output, Nat.le_trans h.size k.size, fun i hi hn hm => (k.block i hi hn hm).trans (h.block i hi hn hm)⟩
theorem KB.of_kp {rb pb base : Nat} {w w' : World} (h : Kp rb w w') (hb : base ≤ w.heap.size) : KB rb pb base w w' := ⟨h.os, h.tape, h.output, h.size, fun k hk hn _ => h.block k (by omega) hn⟩
theorem P5.kp {rb pb base : Nat} {w w' : World} {v0 v1 v2 v3 v4 : Value} {p : Pg} (h : P5 pb base w v0 v1 v2 v3 v4 p) (k : Kp rb w w') (hr : rb < pb) : P5 pb base w' v0 v1 v2 v3 v4 p := by
 have hlt := h.lt
 refine ⟨k.keep h.box (by omega), h.lt, ?_, ?_, ?_, ?_, ?_, h.a01, h.a02, h.a03, h.a04, h.a12, h.a13, h.a14, h.a23, h.a24, h.a34⟩
 · exact h.r0.move Qbq k.size (fun b hb hl _ => k.block b hl (by omega)) (fun b hb => hb.1) (fun b _ hs => hs)
 · exact h.r1.move Qbp k.size (fun b hb hl _ => k.block b hl (by omega)) (fun b hb => hb.1) (fun b _ hs => hs)
 · exact h.r2.move Qbb k.size (fun b hb hl _ => k.block b hl (by omega)) (fun b hb => hb.1) (fun b _ hs => hs)
 · exact h.r3.move Qbw k.size (fun b hb hl _ => k.block b hl (by omega)) (fun b hb => hb.1) (fun b _ hs => hs)
 · exact h.r4.move Qbg k.size (fun b hb hl _ => k.block b hl (by omega)) (fun b hb => hb.1) (fun b _ hs => hs)
theorem info50 : ∃ i0 : TypeInfo, Tryz.prog.info? 94 = some i0 ∧ i0.zero = some (.agg #[.string ⟨#[]⟩, .string ⟨#[]⟩, .slice none 0 0, .int .i64 0]) ∧ i0.size = 4 ∧ i0.bytes = 64 := by
 have h : (Tryz.prog.info? 94).map (fun i => (i.zero, i.size, i.bytes)) = some (some (.agg #[.string ⟨#[]⟩, .string ⟨#[]⟩, .slice none 0 0, .int .i64 0]), 4, 64) := by kernel_rfl
 obtain ⟨i0, hi, hi3⟩ := Option.map_eq_some_iff.1 h
 simp only [Prod.mk.injEq] at hi3
 exact ⟨i0, hi, hi3⟩
theorem P5.add0 {rb e dp pb base : Nat} {wr w2 : World} {v0 v1 v2 v3 v4 : Value} {p : Pg} {l2 : List Tok} {i2 : Nat} (h : P5 pb base wr v0 v1 v2 v3 v4 p) (hb : base ≤ wr.heap.size) (hrp : rb < pb) (k2 : Kp rb wr w2) (hR : Rd rb e w2 l2 i2 dp) {x : Typ} {cs : List Value} (hl : cs.length = 4) (h1 : ∀ c ∈ cs, c.oneCell' = true) {S : Nat → Prop} (hx : PTy S w2 cs x) (hS : ∀ b, S b → wr.heap.size ≤ b) (hf : p.types.length ≤ 65536) (zb : Nat) (hzb : w2.heap[zb]? = some (.cells cs.toArray 94 (0, 0))) :
  ∃ r w8, (Builtin.append_ #[22, 22] 22 #[v0, .slice (some ⟨zb, 0, none⟩) 1 1]).run Tryz.prog w2 = .ok r w8 ∧ (∃ g c, r = .slice (some ⟨g, 0, none⟩) (p.types.length + 1) c ∧ base ≤ g ∧ g < w8.heap.size) ∧ w8.heap[pb]? = some (.cells #[v0, v1, v2, v3, v4] 28 (0, 0)) ∧
   P5 pb base (w8.setCell ⟨pb, 0, none⟩ r) r v1 v2 v3 v4 (.mk (p.types ++ [x]) p.decls p.comps p.inits p.clauses) ∧ Rd rb e (w8.setCell ⟨pb, 0, none⟩ r) l2 i2 dp ∧ KB rb pb base wr (w8.setCell ⟨pb, 0, none⟩ r) := by
 obtain ⟨i0, hi, hz, hsz, hby⟩ := info50
 have ht : Tryz.prog.underlying 22 = some (.slice 94) := by kernel_rfl
 have hlt := h.lt
 have hs2 := k2.size
 have hown : ∀ b, some b = v0.ownBlock → base ≤ b ∧ b < wr.heap.size := h.r0.lt
 have hrow : Row PTy 4 94 base (fun b => P5S base v0 v1 v2 v3 v4 b ∧ b < w2.heap.size) w2 v0 p.types := h.r0.move Qbq k2.size (fun b hb hl _ => k2.block b hl (by omega)) (fun b hb => hb.1) (fun b hl hs => ⟨hs, by omega⟩)
 have hx2 : PTy (fun b => P5S base v0 v1 v2 v3 v4 b ∧ b < w2.heap.size) w2 cs x := Qbq.mono _ _ _ _ _ hx (fun b hl hs => by
  have hb' := hS b hs
  exact ⟨⟨by omega, fun e => by have := h.r0.lt b e; omega, fun e => by have := h.r1.lt b e; omega, fun e => by have := h.r2.lt b e; omega, fun e => by have := h.r3.lt b e; omega, fun e => by have := h.r4.lt b e; omega⟩, hl⟩)
 obtain ⟨r, w8, hr, g8, a8, ⟨g, c, er⟩, hrow8⟩ := hrow.app Qbq ht hi hz hsz hby rfl (by decide) (by decide) (fun b hs => hs.1.2.1) hl h1 hx2 (by omega) hf zb hzb
 have hs8 := g8.size
 have hsame : ∀ b, b < w2.heap.size → some b ≠ v0.ownBlock → w8.heap[b]? = w2.heap[b]? := fun b hb hn => g8.block b hb hn
 have hpb : pb < wr.heap.size := Qag h.box
 have box8 : w8.heap[pb]? = some (.cells #[v0, v1, v2, v3, v4] 28 (0, 0)) := (hsame pb (by omega) (fun e => by have := (hown pb e).1; omega)).trans (k2.keep h.box (by omega))
 have hrn : ∀ b, some b = r.ownBlock → some b = v0.ownBlock ∨ w2.heap.size ≤ b := fun b e => by
  rcases a8 with e2 | e2
  · exact .inl (e.trans e2)
  rw [e2] at e
  simp only [Option.some.injEq] at e
  exact .inr (by omega)
 have hset : ∀ b, b ≠ pb → (w8.setCell ⟨pb, 0, none⟩ r).heap[b]? = w8.heap[b]? := fun b hb => hpS hb
 have hsz8 : (w8.setCell ⟨pb, 0, none⟩ r).heap.size = w8.heap.size := by simp [World.setCell]
 have hSn : ∀ b, b < w2.heap.size → P5S base v0 v1 v2 v3 v4 b → P5S base r v1 v2 v3 v4 b := fun b hb hs => by
  obtain ⟨s, s0, s1, s2, s3, s4⟩ := hs
  exact ⟨s, (fun e => by rcases hrn b e with e | e; exact s0 e; omega), s1, s2, s3, s4⟩
 have hob : ∀ b, base ≤ b → b < w2.heap.size → some b ≠ v0.ownBlock → b ≠ rb → (w8.setCell ⟨pb, 0, none⟩ r).heap[b]? = w2.heap[b]? := fun b hb hl hn _ => (hset b (by omega)).trans (hsame b hl hn)
 have hapn : ∀ v, Apt v v0 → (∀ b, some b = v.ownBlock → b < w2.heap.size) → Apt v r := fun v ha hv b e1 e2 => by
  rcases hrn b e2 with e | e
  · exact ha b e1 e
  · have := hv b e1; omega
 have hbx : (w8.setCell ⟨pb, 0, none⟩ r).heap[pb]? = some (.cells #[r, v1, v2, v3, v4] 28 (0, 0)) := (Qad box8 0 r).trans rfl
 have hgl : base ≤ g ∧ g < w8.heap.size := hrow8.lt g (by rw [er]; rfl)
 refine ⟨r, w8, hr, ⟨g, c, er, hgl⟩, box8, ⟨hbx, h.lt, ?_, ?_, ?_, ?_, ?_, (hapn v1 h.a01.symm (fun b e => by have := h.r1.lt b e; omega)).symm, (hapn v2 h.a02.symm (fun b e => by have := h.r2.lt b e; omega)).symm, (hapn v3 h.a03.symm (fun b e => by have := h.r3.lt b e; omega)).symm, (hapn v4 h.a04.symm (fun b e => by have := h.r4.lt b e; omega)).symm, h.a12, h.a13, h.a14, h.a23, h.a24, h.a34⟩, ?_, ?_⟩
 · exact hrow8.move Qbq (by omega) (fun b hb _ _ => hset b (by omega)) (fun b hs => hs.1.1) (fun b _ hs => hSn b hs.2 hs.1)
 ·
  refine (h.r1.move Qbp k2.size (S' := fun b => P5S base v0 v1 v2 v3 v4 b ∧ b < w2.heap.size) (fun b hb hl _ => k2.block b hl (by omega)) (fun b hb => hb.1) (fun b hl hs => ⟨hs, by omega⟩)).move Qbp (by omega) (fun b hb hl ho => ?_) (fun b hs => hs.1.1) (fun b _ hs => hSn b hs.2 hs.1)
  refine hob b hb hl ?_ (by omega)
  rcases ho with hs | e
  · exact hs.1.2.1
  · exact h.a01.symm b e
 ·
  refine (h.r2.move Qbb k2.size (S' := fun b => P5S base v0 v1 v2 v3 v4 b ∧ b < w2.heap.size) (fun b hb hl _ => k2.block b hl (by omega)) (fun b hb => hb.1) (fun b hl hs => ⟨hs, by omega⟩)).move Qbb (by omega) (fun b hb hl ho => ?_) (fun b hs => hs.1.1) (fun b _ hs => hSn b hs.2 hs.1)
  refine hob b hb hl ?_ (by omega)
  rcases ho with hs | e
  · exact hs.1.2.1
  · exact h.a02.symm b e
 ·
  refine (h.r3.move Qbw k2.size (S' := fun b => P5S base v0 v1 v2 v3 v4 b ∧ b < w2.heap.size) (fun b hb hl _ => k2.block b hl (by omega)) (fun b hb => hb.1) (fun b hl hs => ⟨hs, by omega⟩)).move Qbw (by omega) (fun b hb hl ho => ?_) (fun b hs => hs.1.1) (fun b _ hs => hSn b hs.2 hs.1)
  refine hob b hb hl ?_ (by omega)
  rcases ho with hs | e
  · exact hs.1.2.1
  · exact h.a03.symm b e
 ·
  refine (h.r4.move Qbg k2.size (S' := fun b => P5S base v0 v1 v2 v3 v4 b ∧ b < w2.heap.size) (fun b hb hl _ => k2.block b hl (by omega)) (fun b hb => hb.1) (fun b hl hs => ⟨hs, by omega⟩)).move Qbg (by omega) (fun b hb hl ho => ?_) (fun b hs => hs.1.1) (fun b _ hs => hSn b hs.2 hs.1)
  refine hob b hb hl ?_ (by omega)
  rcases ho with hs | e
  · exact hs.1.2.1
  · exact h.a04.symm b e
 ·
  obtain ⟨v, q1, a, cap, q2, q3, q4, q5⟩ := hR.box
  have hk : ∀ b, b < base → b ≠ pb → b < w2.heap.size → (w8.setCell ⟨pb, 0, none⟩ r).heap[b]? = w2.heap[b]? := fun b hb hn hl => (hset b hn).trans (hsame b hl (fun e => by have := (hown b e).1; omega))
  refine ⟨⟨v, (hk rb (by omega) (by omega) (Qag q1)).trans q1, a, cap, q2, q3, q4, fun j t hj => ?_⟩, hR.num, hR.len, hR.end_⟩
  obtain ⟨b, o, e1, e2, e3⟩ := q5 j t hj
  exact ⟨b, o, e1, e2, e3.same (hk b (by omega) (by omega) e3.lt)⟩
 have hs := (Below.refl 0 w8).setCell (p := ⟨pb, 0, none⟩) (Nat.zero_le _) r
 refine ⟨hs.os.trans (g8.os.trans k2.os), hs.tape.trans (g8.tape.trans k2.tape), hs.output.trans (g8.output.trans k2.output), by omega, fun b hb hn hm => ?_⟩
 rw [hset b hm, hsame b (by omega) (fun e => by have := (hown b e).1; omega)]
 exact k2.block b (by omega) hn
theorem info51 : ∃ i0 : TypeInfo, Tryz.prog.info? 99 = some i0 ∧ i0.zero = some (.agg #[.string ⟨#[]⟩, .slice none 0 0, .bool false, .bool false, .int .i64 0]) ∧ i0.size = 5 ∧ i0.bytes = 56 := by
 have h : (Tryz.prog.info? 99).map (fun i => (i.zero, i.size, i.bytes)) = some (some (.agg #[.string ⟨#[]⟩, .slice none 0 0, .bool false, .bool false, .int .i64 0]), 5, 56) := by kernel_rfl
 obtain ⟨i0, hi, hi3⟩ := Option.map_eq_some_iff.1 h
 simp only [Prod.mk.injEq] at hi3
 exact ⟨i0, hi, hi3⟩
theorem P5.add1 {rb e dp pb base : Nat} {wr w2 : World} {v0 v1 v2 v3 v4 : Value} {p : Pg} {l2 : List Tok} {i2 : Nat} (h : P5 pb base wr v0 v1 v2 v3 v4 p) (hb : base ≤ wr.heap.size) (hrp : rb < pb) (k2 : Kp rb wr w2) (hR : Rd rb e w2 l2 i2 dp) {x : Dcl} {cs : List Value} (hl : cs.length = 5) (h1 : ∀ c ∈ cs, c.oneCell' = true) {S : Nat → Prop} (hx : PDc S w2 cs x) (hS : ∀ b, S b → wr.heap.size ≤ b) (hf : p.decls.length ≤ 65536) (zb : Nat) (hzb : w2.heap[zb]? = some (.cells cs.toArray 99 (0, 0))) :
  ∃ r w8, (Builtin.append_ #[23, 23] 23 #[v1, .slice (some ⟨zb, 0, none⟩) 1 1]).run Tryz.prog w2 = .ok r w8 ∧ (∃ g c, r = .slice (some ⟨g, 0, none⟩) (p.decls.length + 1) c ∧ base ≤ g ∧ g < w8.heap.size) ∧ w8.heap[pb]? = some (.cells #[v0, v1, v2, v3, v4] 28 (0, 0)) ∧
   P5 pb base (w8.setCell ⟨pb, 1, none⟩ r) v0 r v2 v3 v4 (.mk p.types (p.decls ++ [x]) p.comps p.inits p.clauses) ∧ Rd rb e (w8.setCell ⟨pb, 1, none⟩ r) l2 i2 dp ∧ KB rb pb base wr (w8.setCell ⟨pb, 1, none⟩ r) := by
 obtain ⟨i0, hi, hz, hsz, hby⟩ := info51
 have ht : Tryz.prog.underlying 23 = some (.slice 99) := by kernel_rfl
 have hlt := h.lt
 have hs2 := k2.size
 have hown : ∀ b, some b = v1.ownBlock → base ≤ b ∧ b < wr.heap.size := h.r1.lt
 have hrow : Row PDc 5 99 base (fun b => P5S base v0 v1 v2 v3 v4 b ∧ b < w2.heap.size) w2 v1 p.decls := h.r1.move Qbp k2.size (fun b hb hl _ => k2.block b hl (by omega)) (fun b hb => hb.1) (fun b hl hs => ⟨hs, by omega⟩)
 have hx2 : PDc (fun b => P5S base v0 v1 v2 v3 v4 b ∧ b < w2.heap.size) w2 cs x := Qbp.mono _ _ _ _ _ hx (fun b hl hs => by
  have hb' := hS b hs
  exact ⟨⟨by omega, fun e => by have := h.r0.lt b e; omega, fun e => by have := h.r1.lt b e; omega, fun e => by have := h.r2.lt b e; omega, fun e => by have := h.r3.lt b e; omega, fun e => by have := h.r4.lt b e; omega⟩, hl⟩)
 obtain ⟨r, w8, hr, g8, a8, ⟨g, c, er⟩, hrow8⟩ := hrow.app Qbp ht hi hz hsz hby rfl (by decide) (by decide) (fun b hs => hs.1.2.2.1) hl h1 hx2 (by omega) hf zb hzb
 have hs8 := g8.size
 have hsame : ∀ b, b < w2.heap.size → some b ≠ v1.ownBlock → w8.heap[b]? = w2.heap[b]? := fun b hb hn => g8.block b hb hn
 have hpb : pb < wr.heap.size := Qag h.box
 have box8 : w8.heap[pb]? = some (.cells #[v0, v1, v2, v3, v4] 28 (0, 0)) := (hsame pb (by omega) (fun e => by have := (hown pb e).1; omega)).trans (k2.keep h.box (by omega))
 have hrn : ∀ b, some b = r.ownBlock → some b = v1.ownBlock ∨ w2.heap.size ≤ b := fun b e => by
  rcases a8 with e2 | e2
  · exact .inl (e.trans e2)
  rw [e2] at e
  simp only [Option.some.injEq] at e
  exact .inr (by omega)
 have hset : ∀ b, b ≠ pb → (w8.setCell ⟨pb, 1, none⟩ r).heap[b]? = w8.heap[b]? := fun b hb => hpS hb
 have hsz8 : (w8.setCell ⟨pb, 1, none⟩ r).heap.size = w8.heap.size := by simp [World.setCell]
 have hSn : ∀ b, b < w2.heap.size → P5S base v0 v1 v2 v3 v4 b → P5S base v0 r v2 v3 v4 b := fun b hb hs => by
  obtain ⟨s, s0, s1, s2, s3, s4⟩ := hs
  exact ⟨s, s0, (fun e => by rcases hrn b e with e | e; exact s1 e; omega), s2, s3, s4⟩
 have hob : ∀ b, base ≤ b → b < w2.heap.size → some b ≠ v1.ownBlock → b ≠ rb → (w8.setCell ⟨pb, 1, none⟩ r).heap[b]? = w2.heap[b]? := fun b hb hl hn _ => (hset b (by omega)).trans (hsame b hl hn)
 have hapn : ∀ v, Apt v v1 → (∀ b, some b = v.ownBlock → b < w2.heap.size) → Apt v r := fun v ha hv b e1 e2 => by
  rcases hrn b e2 with e | e
  · exact ha b e1 e
  · have := hv b e1; omega
 have hbx : (w8.setCell ⟨pb, 1, none⟩ r).heap[pb]? = some (.cells #[v0, r, v2, v3, v4] 28 (0, 0)) := (Qad box8 1 r).trans rfl
 have hgl : base ≤ g ∧ g < w8.heap.size := hrow8.lt g (by rw [er]; rfl)
 refine ⟨r, w8, hr, ⟨g, c, er, hgl⟩, box8, ⟨hbx, h.lt, ?_, ?_, ?_, ?_, ?_, hapn v0 h.a01 (fun b e => by have := h.r0.lt b e; omega), h.a02, h.a03, h.a04, (hapn v2 h.a12.symm (fun b e => by have := h.r2.lt b e; omega)).symm, (hapn v3 h.a13.symm (fun b e => by have := h.r3.lt b e; omega)).symm, (hapn v4 h.a14.symm (fun b e => by have := h.r4.lt b e; omega)).symm, h.a23, h.a24, h.a34⟩, ?_, ?_⟩
 ·
  refine (h.r0.move Qbq k2.size (S' := fun b => P5S base v0 v1 v2 v3 v4 b ∧ b < w2.heap.size) (fun b hb hl _ => k2.block b hl (by omega)) (fun b hb => hb.1) (fun b hl hs => ⟨hs, by omega⟩)).move Qbq (by omega) (fun b hb hl ho => ?_) (fun b hs => hs.1.1) (fun b _ hs => hSn b hs.2 hs.1)
  refine hob b hb hl ?_ (by omega)
  rcases ho with hs | e
  · exact hs.1.2.2.1
  · exact h.a01 b e
 · exact hrow8.move Qbp (by omega) (fun b hb _ _ => hset b (by omega)) (fun b hs => hs.1.1) (fun b _ hs => hSn b hs.2 hs.1)
 ·
  refine (h.r2.move Qbb k2.size (S' := fun b => P5S base v0 v1 v2 v3 v4 b ∧ b < w2.heap.size) (fun b hb hl _ => k2.block b hl (by omega)) (fun b hb => hb.1) (fun b hl hs => ⟨hs, by omega⟩)).move Qbb (by omega) (fun b hb hl ho => ?_) (fun b hs => hs.1.1) (fun b _ hs => hSn b hs.2 hs.1)
  refine hob b hb hl ?_ (by omega)
  rcases ho with hs | e
  · exact hs.1.2.2.1
  · exact h.a12.symm b e
 ·
  refine (h.r3.move Qbw k2.size (S' := fun b => P5S base v0 v1 v2 v3 v4 b ∧ b < w2.heap.size) (fun b hb hl _ => k2.block b hl (by omega)) (fun b hb => hb.1) (fun b hl hs => ⟨hs, by omega⟩)).move Qbw (by omega) (fun b hb hl ho => ?_) (fun b hs => hs.1.1) (fun b _ hs => hSn b hs.2 hs.1)
  refine hob b hb hl ?_ (by omega)
  rcases ho with hs | e
  · exact hs.1.2.2.1
  · exact h.a13.symm b e
 ·
  refine (h.r4.move Qbg k2.size (S' := fun b => P5S base v0 v1 v2 v3 v4 b ∧ b < w2.heap.size) (fun b hb hl _ => k2.block b hl (by omega)) (fun b hb => hb.1) (fun b hl hs => ⟨hs, by omega⟩)).move Qbg (by omega) (fun b hb hl ho => ?_) (fun b hs => hs.1.1) (fun b _ hs => hSn b hs.2 hs.1)
  refine hob b hb hl ?_ (by omega)
  rcases ho with hs | e
  · exact hs.1.2.2.1
  · exact h.a14.symm b e
 ·
  obtain ⟨v, q1, a, cap, q2, q3, q4, q5⟩ := hR.box
  have hk : ∀ b, b < base → b ≠ pb → b < w2.heap.size → (w8.setCell ⟨pb, 1, none⟩ r).heap[b]? = w2.heap[b]? := fun b hb hn hl => (hset b hn).trans (hsame b hl (fun e => by have := (hown b e).1; omega))
  refine ⟨⟨v, (hk rb (by omega) (by omega) (Qag q1)).trans q1, a, cap, q2, q3, q4, fun j t hj => ?_⟩, hR.num, hR.len, hR.end_⟩
  obtain ⟨b, o, e1, e2, e3⟩ := q5 j t hj
  exact ⟨b, o, e1, e2, e3.same (hk b (by omega) (by omega) e3.lt)⟩
 have hs := (Below.refl 0 w8).setCell (p := ⟨pb, 1, none⟩) (Nat.zero_le _) r
 refine ⟨hs.os.trans (g8.os.trans k2.os), hs.tape.trans (g8.tape.trans k2.tape), hs.output.trans (g8.output.trans k2.output), by omega, fun b hb hn hm => ?_⟩
 rw [hset b hm, hsame b (by omega) (fun e => by have := (hown b e).1; omega)]
 exact k2.block b (by omega) hn
theorem info52 : ∃ i0 : TypeInfo, Tryz.prog.info? 72 = some i0 ∧ i0.zero = some (.agg #[.string ⟨#[]⟩, .slice none 0 0, .slice none 0 0, .slice none 0 0, .slice none 0 0, .slice none 0 0, .slice none 0 0, .int .i64 0]) ∧ i0.size = 8 ∧ i0.bytes = 168 := by
 have h : (Tryz.prog.info? 72).map (fun i => (i.zero, i.size, i.bytes)) = some (some (.agg #[.string ⟨#[]⟩, .slice none 0 0, .slice none 0 0, .slice none 0 0, .slice none 0 0, .slice none 0 0, .slice none 0 0, .int .i64 0]), 8, 168) := by kernel_rfl
 obtain ⟨i0, hi, hi3⟩ := Option.map_eq_some_iff.1 h
 simp only [Prod.mk.injEq] at hi3
 exact ⟨i0, hi, hi3⟩
theorem P5.add2 {rb e dp pb base : Nat} {wr w2 : World} {v0 v1 v2 v3 v4 : Value} {p : Pg} {l2 : List Tok} {i2 : Nat} (h : P5 pb base wr v0 v1 v2 v3 v4 p) (hb : base ≤ wr.heap.size) (hrp : rb < pb) (k2 : Kp rb wr w2) (hR : Rd rb e w2 l2 i2 dp) {x : Cp} {cs : List Value} (hl : cs.length = 8) (h1 : ∀ c ∈ cs, c.oneCell' = true) {S : Nat → Prop} (hx : PCo S w2 cs x) (hS : ∀ b, S b → wr.heap.size ≤ b) (hf : p.comps.length ≤ 65536) (zb : Nat) (hzb : w2.heap[zb]? = some (.cells cs.toArray 72 (0, 0))) :
  ∃ r w8, (Builtin.append_ #[24, 24] 24 #[v2, .slice (some ⟨zb, 0, none⟩) 1 1]).run Tryz.prog w2 = .ok r w8 ∧ (∃ g c, r = .slice (some ⟨g, 0, none⟩) (p.comps.length + 1) c ∧ base ≤ g ∧ g < w8.heap.size) ∧ w8.heap[pb]? = some (.cells #[v0, v1, v2, v3, v4] 28 (0, 0)) ∧
   P5 pb base (w8.setCell ⟨pb, 2, none⟩ r) v0 v1 r v3 v4 (.mk p.types p.decls (p.comps ++ [x]) p.inits p.clauses) ∧ Rd rb e (w8.setCell ⟨pb, 2, none⟩ r) l2 i2 dp ∧ KB rb pb base wr (w8.setCell ⟨pb, 2, none⟩ r) ∧ (∀ b, wr.heap.size ≤ b → b < w2.heap.size → w8.heap[b]? = w2.heap[b]? ∧ some b ≠ r.ownBlock) ∧ w2.heap.size ≤ w8.heap.size := by
 obtain ⟨i0, hi, hz, hsz, hby⟩ := info52
 have ht : Tryz.prog.underlying 24 = some (.slice 72) := by kernel_rfl
 have hlt := h.lt
 have hs2 := k2.size
 have hown : ∀ b, some b = v2.ownBlock → base ≤ b ∧ b < wr.heap.size := h.r2.lt
 have hrow : Row PCo 8 72 base (fun b => P5S base v0 v1 v2 v3 v4 b ∧ b < w2.heap.size) w2 v2 p.comps := h.r2.move Qbb k2.size (fun b hb hl _ => k2.block b hl (by omega)) (fun b hb => hb.1) (fun b hl hs => ⟨hs, by omega⟩)
 have hx2 : PCo (fun b => P5S base v0 v1 v2 v3 v4 b ∧ b < w2.heap.size) w2 cs x := Qbb.mono _ _ _ _ _ hx (fun b hl hs => by
  have hb' := hS b hs
  exact ⟨⟨by omega, fun e => by have := h.r0.lt b e; omega, fun e => by have := h.r1.lt b e; omega, fun e => by have := h.r2.lt b e; omega, fun e => by have := h.r3.lt b e; omega, fun e => by have := h.r4.lt b e; omega⟩, hl⟩)
 obtain ⟨r, w8, hr, g8, a8, ⟨g, c, er⟩, hrow8⟩ := hrow.app Qbb ht hi hz hsz hby rfl (by decide) (by decide) (fun b hs => hs.1.2.2.2.1) hl h1 hx2 (by omega) hf zb hzb
 have hs8 := g8.size
 have hsame : ∀ b, b < w2.heap.size → some b ≠ v2.ownBlock → w8.heap[b]? = w2.heap[b]? := fun b hb hn => g8.block b hb hn
 have hpb : pb < wr.heap.size := Qag h.box
 have box8 : w8.heap[pb]? = some (.cells #[v0, v1, v2, v3, v4] 28 (0, 0)) := (hsame pb (by omega) (fun e => by have := (hown pb e).1; omega)).trans (k2.keep h.box (by omega))
 have hrn : ∀ b, some b = r.ownBlock → some b = v2.ownBlock ∨ w2.heap.size ≤ b := fun b e => by
  rcases a8 with e2 | e2
  · exact .inl (e.trans e2)
  rw [e2] at e
  simp only [Option.some.injEq] at e
  exact .inr (by omega)
 have hset : ∀ b, b ≠ pb → (w8.setCell ⟨pb, 2, none⟩ r).heap[b]? = w8.heap[b]? := fun b hb => hpS hb
 have hsz8 : (w8.setCell ⟨pb, 2, none⟩ r).heap.size = w8.heap.size := by simp [World.setCell]
 have hSn : ∀ b, b < w2.heap.size → P5S base v0 v1 v2 v3 v4 b → P5S base v0 v1 r v3 v4 b := fun b hb hs => by
  obtain ⟨s, s0, s1, s2, s3, s4⟩ := hs
  exact ⟨s, s0, s1, (fun e => by rcases hrn b e with e | e; exact s2 e; omega), s3, s4⟩
 have hob : ∀ b, base ≤ b → b < w2.heap.size → some b ≠ v2.ownBlock → b ≠ rb → (w8.setCell ⟨pb, 2, none⟩ r).heap[b]? = w2.heap[b]? := fun b hb hl hn _ => (hset b (by omega)).trans (hsame b hl hn)
 have hapn : ∀ v, Apt v v2 → (∀ b, some b = v.ownBlock → b < w2.heap.size) → Apt v r := fun v ha hv b e1 e2 => by
  rcases hrn b e2 with e | e
  · exact ha b e1 e
  · have := hv b e1; omega
 have hbx : (w8.setCell ⟨pb, 2, none⟩ r).heap[pb]? = some (.cells #[v0, v1, r, v3, v4] 28 (0, 0)) := (Qad box8 2 r).trans rfl
 have hgl : base ≤ g ∧ g < w8.heap.size := hrow8.lt g (by rw [er]; rfl)
 refine ⟨r, w8, hr, ⟨g, c, er, hgl⟩, box8, ⟨hbx, h.lt, ?_, ?_, ?_, ?_, ?_, h.a01, hapn v0 h.a02 (fun b e => by have := h.r0.lt b e; omega), h.a03, h.a04, hapn v1 h.a12 (fun b e => by have := h.r1.lt b e; omega), h.a13, h.a14, (hapn v3 h.a23.symm (fun b e => by have := h.r3.lt b e; omega)).symm, (hapn v4 h.a24.symm (fun b e => by have := h.r4.lt b e; omega)).symm, h.a34⟩, ?_, ?_, fun b h1 h2 => ⟨hsame b h2 (fun e => by have := (hown b e).2; omega), fun e => by rcases hrn b e with e | e; have := (hown b e).2; omega; omega⟩, hs8⟩
 ·
  refine (h.r0.move Qbq k2.size (S' := fun b => P5S base v0 v1 v2 v3 v4 b ∧ b < w2.heap.size) (fun b hb hl _ => k2.block b hl (by omega)) (fun b hb => hb.1) (fun b hl hs => ⟨hs, by omega⟩)).move Qbq (by omega) (fun b hb hl ho => ?_) (fun b hs => hs.1.1) (fun b _ hs => hSn b hs.2 hs.1)
  refine hob b hb hl ?_ (by omega)
  rcases ho with hs | e
  · exact hs.1.2.2.2.1
  · exact h.a02 b e
 ·
  refine (h.r1.move Qbp k2.size (S' := fun b => P5S base v0 v1 v2 v3 v4 b ∧ b < w2.heap.size) (fun b hb hl _ => k2.block b hl (by omega)) (fun b hb => hb.1) (fun b hl hs => ⟨hs, by omega⟩)).move Qbp (by omega) (fun b hb hl ho => ?_) (fun b hs => hs.1.1) (fun b _ hs => hSn b hs.2 hs.1)
  refine hob b hb hl ?_ (by omega)
  rcases ho with hs | e
  · exact hs.1.2.2.2.1
  · exact h.a12 b e
 · exact hrow8.move Qbb (by omega) (fun b hb _ _ => hset b (by omega)) (fun b hs => hs.1.1) (fun b _ hs => hSn b hs.2 hs.1)
 ·
  refine (h.r3.move Qbw k2.size (S' := fun b => P5S base v0 v1 v2 v3 v4 b ∧ b < w2.heap.size) (fun b hb hl _ => k2.block b hl (by omega)) (fun b hb => hb.1) (fun b hl hs => ⟨hs, by omega⟩)).move Qbw (by omega) (fun b hb hl ho => ?_) (fun b hs => hs.1.1) (fun b _ hs => hSn b hs.2 hs.1)
  refine hob b hb hl ?_ (by omega)
  rcases ho with hs | e
  · exact hs.1.2.2.2.1
  · exact h.a23.symm b e
 ·
  refine (h.r4.move Qbg k2.size (S' := fun b => P5S base v0 v1 v2 v3 v4 b ∧ b < w2.heap.size) (fun b hb hl _ => k2.block b hl (by omega)) (fun b hb => hb.1) (fun b hl hs => ⟨hs, by omega⟩)).move Qbg (by omega) (fun b hb hl ho => ?_) (fun b hs => hs.1.1) (fun b _ hs => hSn b hs.2 hs.1)
  refine hob b hb hl ?_ (by omega)
  rcases ho with hs | e
  · exact hs.1.2.2.2.1
  · exact h.a24.symm b e
 ·
  obtain ⟨v, q1, a, cap, q2, q3, q4, q5⟩ := hR.box
  have hk : ∀ b, b < base → b ≠ pb → b < w2.heap.size → (w8.setCell ⟨pb, 2, none⟩ r).heap[b]? = w2.heap[b]? := fun b hb hn hl => (hset b hn).trans (hsame b hl (fun e => by have := (hown b e).1; omega))
  refine ⟨⟨v, (hk rb (by omega) (by omega) (Qag q1)).trans q1, a, cap, q2, q3, q4, fun j t hj => ?_⟩, hR.num, hR.len, hR.end_⟩
  obtain ⟨b, o, e1, e2, e3⟩ := q5 j t hj
  exact ⟨b, o, e1, e2, e3.same (hk b (by omega) (by omega) e3.lt)⟩
 have hs := (Below.refl 0 w8).setCell (p := ⟨pb, 2, none⟩) (Nat.zero_le _) r
 refine ⟨hs.os.trans (g8.os.trans k2.os), hs.tape.trans (g8.tape.trans k2.tape), hs.output.trans (g8.output.trans k2.output), by omega, fun b hb hn hm => ?_⟩
 rw [hset b hm, hsame b (by omega) (fun e => by have := (hown b e).1; omega)]
 exact k2.block b (by omega) hn
theorem info53 : ∃ i0 : TypeInfo, Tryz.prog.info? 77 = some i0 ∧ i0.zero = some (.agg #[.string ⟨#[]⟩, .string ⟨#[]⟩, .int .i64 0]) ∧ i0.size = 3 ∧ i0.bytes = 40 := by
 have h : (Tryz.prog.info? 77).map (fun i => (i.zero, i.size, i.bytes)) = some (some (.agg #[.string ⟨#[]⟩, .string ⟨#[]⟩, .int .i64 0]), 3, 40) := by kernel_rfl
 obtain ⟨i0, hi, hi3⟩ := Option.map_eq_some_iff.1 h
 simp only [Prod.mk.injEq] at hi3
 exact ⟨i0, hi, hi3⟩
theorem P5.add3 {rb e dp pb base : Nat} {wr w2 : World} {v0 v1 v2 v3 v4 : Value} {p : Pg} {l2 : List Tok} {i2 : Nat} (h : P5 pb base wr v0 v1 v2 v3 v4 p) (hb : base ≤ wr.heap.size) (hrp : rb < pb) (k2 : Kp rb wr w2) (hR : Rd rb e w2 l2 i2 dp) {x : Ini} {cs : List Value} (hl : cs.length = 3) (h1 : ∀ c ∈ cs, c.oneCell' = true) {S : Nat → Prop} (hx : PIn S w2 cs x) (hS : ∀ b, S b → wr.heap.size ≤ b) (hf : p.inits.length ≤ 65536) (zb : Nat) (hzb : w2.heap[zb]? = some (.cells cs.toArray 77 (0, 0))) :
  ∃ r w8, (Builtin.append_ #[25, 25] 25 #[v3, .slice (some ⟨zb, 0, none⟩) 1 1]).run Tryz.prog w2 = .ok r w8 ∧ (∃ g c, r = .slice (some ⟨g, 0, none⟩) (p.inits.length + 1) c ∧ base ≤ g ∧ g < w8.heap.size) ∧ w8.heap[pb]? = some (.cells #[v0, v1, v2, v3, v4] 28 (0, 0)) ∧
   P5 pb base (w8.setCell ⟨pb, 3, none⟩ r) v0 v1 v2 r v4 (.mk p.types p.decls p.comps (p.inits ++ [x]) p.clauses) ∧ Rd rb e (w8.setCell ⟨pb, 3, none⟩ r) l2 i2 dp ∧ KB rb pb base wr (w8.setCell ⟨pb, 3, none⟩ r) := by
 obtain ⟨i0, hi, hz, hsz, hby⟩ := info53
 have ht : Tryz.prog.underlying 25 = some (.slice 77) := by kernel_rfl
 have hlt := h.lt
 have hs2 := k2.size
 have hown : ∀ b, some b = v3.ownBlock → base ≤ b ∧ b < wr.heap.size := h.r3.lt
 have hrow : Row PIn 3 77 base (fun b => P5S base v0 v1 v2 v3 v4 b ∧ b < w2.heap.size) w2 v3 p.inits := h.r3.move Qbw k2.size (fun b hb hl _ => k2.block b hl (by omega)) (fun b hb => hb.1) (fun b hl hs => ⟨hs, by omega⟩)
 have hx2 : PIn (fun b => P5S base v0 v1 v2 v3 v4 b ∧ b < w2.heap.size) w2 cs x := Qbw.mono _ _ _ _ _ hx (fun b hl hs => by
  have hb' := hS b hs
  exact ⟨⟨by omega, fun e => by have := h.r0.lt b e; omega, fun e => by have := h.r1.lt b e; omega, fun e => by have := h.r2.lt b e; omega, fun e => by have := h.r3.lt b e; omega, fun e => by have := h.r4.lt b e; omega⟩, hl⟩)
 obtain ⟨r, w8, hr, g8, a8, ⟨g, c, er⟩, hrow8⟩ := hrow.app Qbw ht hi hz hsz hby rfl (by decide) (by decide) (fun b hs => hs.1.2.2.2.2.1) hl h1 hx2 (by omega) hf zb hzb
 have hs8 := g8.size
 have hsame : ∀ b, b < w2.heap.size → some b ≠ v3.ownBlock → w8.heap[b]? = w2.heap[b]? := fun b hb hn => g8.block b hb hn
 have hpb : pb < wr.heap.size := Qag h.box
 have box8 : w8.heap[pb]? = some (.cells #[v0, v1, v2, v3, v4] 28 (0, 0)) := (hsame pb (by omega) (fun e => by have := (hown pb e).1; omega)).trans (k2.keep h.box (by omega))
 have hrn : ∀ b, some b = r.ownBlock → some b = v3.ownBlock ∨ w2.heap.size ≤ b := fun b e => by
  rcases a8 with e2 | e2
  · exact .inl (e.trans e2)
  rw [e2] at e
  simp only [Option.some.injEq] at e
  exact .inr (by omega)
 have hset : ∀ b, b ≠ pb → (w8.setCell ⟨pb, 3, none⟩ r).heap[b]? = w8.heap[b]? := fun b hb => hpS hb
 have hsz8 : (w8.setCell ⟨pb, 3, none⟩ r).heap.size = w8.heap.size := by simp [World.setCell]
 have hSn : ∀ b, b < w2.heap.size → P5S base v0 v1 v2 v3 v4 b → P5S base v0 v1 v2 r v4 b := fun b hb hs => by
  obtain ⟨s, s0, s1, s2, s3, s4⟩ := hs
  exact ⟨s, s0, s1, s2, (fun e => by rcases hrn b e with e | e; exact s3 e; omega), s4⟩
 have hob : ∀ b, base ≤ b → b < w2.heap.size → some b ≠ v3.ownBlock → b ≠ rb → (w8.setCell ⟨pb, 3, none⟩ r).heap[b]? = w2.heap[b]? := fun b hb hl hn _ => (hset b (by omega)).trans (hsame b hl hn)
 have hapn : ∀ v, Apt v v3 → (∀ b, some b = v.ownBlock → b < w2.heap.size) → Apt v r := fun v ha hv b e1 e2 => by
  rcases hrn b e2 with e | e
  · exact ha b e1 e
  · have := hv b e1; omega
 have hbx : (w8.setCell ⟨pb, 3, none⟩ r).heap[pb]? = some (.cells #[v0, v1, v2, r, v4] 28 (0, 0)) := (Qad box8 3 r).trans rfl
 have hgl : base ≤ g ∧ g < w8.heap.size := hrow8.lt g (by rw [er]; rfl)
 refine ⟨r, w8, hr, ⟨g, c, er, hgl⟩, box8, ⟨hbx, h.lt, ?_, ?_, ?_, ?_, ?_, h.a01, h.a02, hapn v0 h.a03 (fun b e => by have := h.r0.lt b e; omega), h.a04, h.a12, hapn v1 h.a13 (fun b e => by have := h.r1.lt b e; omega), h.a14, hapn v2 h.a23 (fun b e => by have := h.r2.lt b e; omega), h.a24, (hapn v4 h.a34.symm (fun b e => by have := h.r4.lt b e; omega)).symm⟩, ?_, ?_⟩
 ·
  refine (h.r0.move Qbq k2.size (S' := fun b => P5S base v0 v1 v2 v3 v4 b ∧ b < w2.heap.size) (fun b hb hl _ => k2.block b hl (by omega)) (fun b hb => hb.1) (fun b hl hs => ⟨hs, by omega⟩)).move Qbq (by omega) (fun b hb hl ho => ?_) (fun b hs => hs.1.1) (fun b _ hs => hSn b hs.2 hs.1)
  refine hob b hb hl ?_ (by omega)
  rcases ho with hs | e
  · exact hs.1.2.2.2.2.1
  · exact h.a03 b e
 ·
  refine (h.r1.move Qbp k2.size (S' := fun b => P5S base v0 v1 v2 v3 v4 b ∧ b < w2.heap.size) (fun b hb hl _ => k2.block b hl (by omega)) (fun b hb => hb.1) (fun b hl hs => ⟨hs, by omega⟩)).move Qbp (by omega) (fun b hb hl ho => ?_) (fun b hs => hs.1.1) (fun b _ hs => hSn b hs.2 hs.1)
  refine hob b hb hl ?_ (by omega)
  rcases ho with hs | e
  · exact hs.1.2.2.2.2.1
  · exact h.a13 b e
 ·
  refine (h.r2.move Qbb k2.size (S' := fun b => P5S base v0 v1 v2 v3 v4 b ∧ b < w2.heap.size) (fun b hb hl _ => k2.block b hl (by omega)) (fun b hb => hb.1) (fun b hl hs => ⟨hs, by omega⟩)).move Qbb (by omega) (fun b hb hl ho => ?_) (fun b hs => hs.1.1) (fun b _ hs => hSn b hs.2 hs.1)
  refine hob b hb hl ?_ (by omega)
  rcases ho with hs | e
  · exact hs.1.2.2.2.2.1
  · exact h.a23 b e
 · exact hrow8.move Qbw (by omega) (fun b hb _ _ => hset b (by omega)) (fun b hs => hs.1.1) (fun b _ hs => hSn b hs.2 hs.1)
 ·
  refine (h.r4.move Qbg k2.size (S' := fun b => P5S base v0 v1 v2 v3 v4 b ∧ b < w2.heap.size) (fun b hb hl _ => k2.block b hl (by omega)) (fun b hb => hb.1) (fun b hl hs => ⟨hs, by omega⟩)).move Qbg (by omega) (fun b hb hl ho => ?_) (fun b hs => hs.1.1) (fun b _ hs => hSn b hs.2 hs.1)
  refine hob b hb hl ?_ (by omega)
  rcases ho with hs | e
  · exact hs.1.2.2.2.2.1
  · exact h.a34.symm b e
 ·
  obtain ⟨v, q1, a, cap, q2, q3, q4, q5⟩ := hR.box
  have hk : ∀ b, b < base → b ≠ pb → b < w2.heap.size → (w8.setCell ⟨pb, 3, none⟩ r).heap[b]? = w2.heap[b]? := fun b hb hn hl => (hset b hn).trans (hsame b hl (fun e => by have := (hown b e).1; omega))
  refine ⟨⟨v, (hk rb (by omega) (by omega) (Qag q1)).trans q1, a, cap, q2, q3, q4, fun j t hj => ?_⟩, hR.num, hR.len, hR.end_⟩
  obtain ⟨b, o, e1, e2, e3⟩ := q5 j t hj
  exact ⟨b, o, e1, e2, e3.same (hk b (by omega) (by omega) e3.lt)⟩
 have hs := (Below.refl 0 w8).setCell (p := ⟨pb, 3, none⟩) (Nat.zero_le _) r
 refine ⟨hs.os.trans (g8.os.trans k2.os), hs.tape.trans (g8.tape.trans k2.tape), hs.output.trans (g8.output.trans k2.output), by omega, fun b hb hn hm => ?_⟩
 rw [hset b hm, hsame b (by omega) (fun e => by have := (hown b e).1; omega)]
 exact k2.block b (by omega) hn
theorem info54 : ∃ i0 : TypeInfo, Tryz.prog.info? 64 = some i0 ∧ i0.zero = some (.agg #[.string ⟨#[]⟩, .slice none 0 0, .int .i64 0, .slice none 0 0, .int .i64 0]) ∧ i0.size = 5 ∧ i0.bytes = 80 := by
 have h : (Tryz.prog.info? 64).map (fun i => (i.zero, i.size, i.bytes)) = some (some (.agg #[.string ⟨#[]⟩, .slice none 0 0, .int .i64 0, .slice none 0 0, .int .i64 0]), 5, 80) := by kernel_rfl
 obtain ⟨i0, hi, hi3⟩ := Option.map_eq_some_iff.1 h
 simp only [Prod.mk.injEq] at hi3
 exact ⟨i0, hi, hi3⟩
theorem P5.add4 {rb e dp pb base : Nat} {wr w2 : World} {v0 v1 v2 v3 v4 : Value} {p : Pg} {l2 : List Tok} {i2 : Nat} (h : P5 pb base wr v0 v1 v2 v3 v4 p) (hb : base ≤ wr.heap.size) (hrp : rb < pb) (k2 : Kp rb wr w2) (hR : Rd rb e w2 l2 i2 dp) {x : Cls} {cs : List Value} (hl : cs.length = 5) (h1 : ∀ c ∈ cs, c.oneCell' = true) {S : Nat → Prop} (hx : PCl S w2 cs x) (hS : ∀ b, S b → wr.heap.size ≤ b) (hf : p.clauses.length ≤ 65536) (zb : Nat) (hzb : w2.heap[zb]? = some (.cells cs.toArray 64 (0, 0))) :
  ∃ r w8, (Builtin.append_ #[26, 26] 26 #[v4, .slice (some ⟨zb, 0, none⟩) 1 1]).run Tryz.prog w2 = .ok r w8 ∧ (∃ g c, r = .slice (some ⟨g, 0, none⟩) (p.clauses.length + 1) c ∧ base ≤ g ∧ g < w8.heap.size) ∧ w8.heap[pb]? = some (.cells #[v0, v1, v2, v3, v4] 28 (0, 0)) ∧
   P5 pb base (w8.setCell ⟨pb, 4, none⟩ r) v0 v1 v2 v3 r (.mk p.types p.decls p.comps p.inits (p.clauses ++ [x])) ∧ Rd rb e (w8.setCell ⟨pb, 4, none⟩ r) l2 i2 dp ∧ KB rb pb base wr (w8.setCell ⟨pb, 4, none⟩ r) := by
 obtain ⟨i0, hi, hz, hsz, hby⟩ := info54
 have ht : Tryz.prog.underlying 26 = some (.slice 64) := by kernel_rfl
 have hlt := h.lt
 have hs2 := k2.size
 have hown : ∀ b, some b = v4.ownBlock → base ≤ b ∧ b < wr.heap.size := h.r4.lt
 have hrow : Row PCl 5 64 base (fun b => P5S base v0 v1 v2 v3 v4 b ∧ b < w2.heap.size) w2 v4 p.clauses := h.r4.move Qbg k2.size (fun b hb hl _ => k2.block b hl (by omega)) (fun b hb => hb.1) (fun b hl hs => ⟨hs, by omega⟩)
 have hx2 : PCl (fun b => P5S base v0 v1 v2 v3 v4 b ∧ b < w2.heap.size) w2 cs x := Qbg.mono _ _ _ _ _ hx (fun b hl hs => by
  have hb' := hS b hs
  exact ⟨⟨by omega, fun e => by have := h.r0.lt b e; omega, fun e => by have := h.r1.lt b e; omega, fun e => by have := h.r2.lt b e; omega, fun e => by have := h.r3.lt b e; omega, fun e => by have := h.r4.lt b e; omega⟩, hl⟩)
 obtain ⟨r, w8, hr, g8, a8, ⟨g, c, er⟩, hrow8⟩ := hrow.app Qbg ht hi hz hsz hby rfl (by decide) (by decide) (fun b hs => hs.1.2.2.2.2.2) hl h1 hx2 (by omega) hf zb hzb
 have hs8 := g8.size
 have hsame : ∀ b, b < w2.heap.size → some b ≠ v4.ownBlock → w8.heap[b]? = w2.heap[b]? := fun b hb hn => g8.block b hb hn
 have hpb : pb < wr.heap.size := Qag h.box
 have box8 : w8.heap[pb]? = some (.cells #[v0, v1, v2, v3, v4] 28 (0, 0)) := (hsame pb (by omega) (fun e => by have := (hown pb e).1; omega)).trans (k2.keep h.box (by omega))
 have hrn : ∀ b, some b = r.ownBlock → some b = v4.ownBlock ∨ w2.heap.size ≤ b := fun b e => by
  rcases a8 with e2 | e2
  · exact .inl (e.trans e2)
  rw [e2] at e
  simp only [Option.some.injEq] at e
  exact .inr (by omega)
 have hset : ∀ b, b ≠ pb → (w8.setCell ⟨pb, 4, none⟩ r).heap[b]? = w8.heap[b]? := fun b hb => hpS hb
 have hsz8 : (w8.setCell ⟨pb, 4, none⟩ r).heap.size = w8.heap.size := by simp [World.setCell]
 have hSn : ∀ b, b < w2.heap.size → P5S base v0 v1 v2 v3 v4 b → P5S base v0 v1 v2 v3 r b := fun b hb hs => by
  obtain ⟨s, s0, s1, s2, s3, s4⟩ := hs
  exact ⟨s, s0, s1, s2, s3, (fun e => by rcases hrn b e with e | e; exact s4 e; omega)⟩
 have hob : ∀ b, base ≤ b → b < w2.heap.size → some b ≠ v4.ownBlock → b ≠ rb → (w8.setCell ⟨pb, 4, none⟩ r).heap[b]? = w2.heap[b]? := fun b hb hl hn _ => (hset b (by omega)).trans (hsame b hl hn)
 have hapn : ∀ v, Apt v v4 → (∀ b, some b = v.ownBlock → b < w2.heap.size) → Apt v r := fun v ha hv b e1 e2 => by
  rcases hrn b e2 with e | e
  · exact ha b e1 e
  · have := hv b e1; omega
 have hbx : (w8.setCell ⟨pb, 4, none⟩ r).heap[pb]? = some (.cells #[v0, v1, v2, v3, r] 28 (0, 0)) := (Qad box8 4 r).trans rfl
 have hgl : base ≤ g ∧ g < w8.heap.size := hrow8.lt g (by rw [er]; rfl)
 refine ⟨r, w8, hr, ⟨g, c, er, hgl⟩, box8, ⟨hbx, h.lt, ?_, ?_, ?_, ?_, ?_, h.a01, h.a02, h.a03, hapn v0 h.a04 (fun b e => by have := h.r0.lt b e; omega), h.a12, h.a13, hapn v1 h.a14 (fun b e => by have := h.r1.lt b e; omega), h.a23, hapn v2 h.a24 (fun b e => by have := h.r2.lt b e; omega), hapn v3 h.a34 (fun b e => by have := h.r3.lt b e; omega)⟩, ?_, ?_⟩
 ·
  refine (h.r0.move Qbq k2.size (S' := fun b => P5S base v0 v1 v2 v3 v4 b ∧ b < w2.heap.size) (fun b hb hl _ => k2.block b hl (by omega)) (fun b hb => hb.1) (fun b hl hs => ⟨hs, by omega⟩)).move Qbq (by omega) (fun b hb hl ho => ?_) (fun b hs => hs.1.1) (fun b _ hs => hSn b hs.2 hs.1)
  refine hob b hb hl ?_ (by omega)
  rcases ho with hs | e
  · exact hs.1.2.2.2.2.2
  · exact h.a04 b e
 ·
  refine (h.r1.move Qbp k2.size (S' := fun b => P5S base v0 v1 v2 v3 v4 b ∧ b < w2.heap.size) (fun b hb hl _ => k2.block b hl (by omega)) (fun b hb => hb.1) (fun b hl hs => ⟨hs, by omega⟩)).move Qbp (by omega) (fun b hb hl ho => ?_) (fun b hs => hs.1.1) (fun b _ hs => hSn b hs.2 hs.1)
  refine hob b hb hl ?_ (by omega)
  rcases ho with hs | e
  · exact hs.1.2.2.2.2.2
  · exact h.a14 b e
 ·
  refine (h.r2.move Qbb k2.size (S' := fun b => P5S base v0 v1 v2 v3 v4 b ∧ b < w2.heap.size) (fun b hb hl _ => k2.block b hl (by omega)) (fun b hb => hb.1) (fun b hl hs => ⟨hs, by omega⟩)).move Qbb (by omega) (fun b hb hl ho => ?_) (fun b hs => hs.1.1) (fun b _ hs => hSn b hs.2 hs.1)
  refine hob b hb hl ?_ (by omega)
  rcases ho with hs | e
  · exact hs.1.2.2.2.2.2
  · exact h.a24 b e
 ·
  refine (h.r3.move Qbw k2.size (S' := fun b => P5S base v0 v1 v2 v3 v4 b ∧ b < w2.heap.size) (fun b hb hl _ => k2.block b hl (by omega)) (fun b hb => hb.1) (fun b hl hs => ⟨hs, by omega⟩)).move Qbw (by omega) (fun b hb hl ho => ?_) (fun b hs => hs.1.1) (fun b _ hs => hSn b hs.2 hs.1)
  refine hob b hb hl ?_ (by omega)
  rcases ho with hs | e
  · exact hs.1.2.2.2.2.2
  · exact h.a34 b e
 · exact hrow8.move Qbg (by omega) (fun b hb _ _ => hset b (by omega)) (fun b hs => hs.1.1) (fun b _ hs => hSn b hs.2 hs.1)
 ·
  obtain ⟨v, q1, a, cap, q2, q3, q4, q5⟩ := hR.box
  have hk : ∀ b, b < base → b ≠ pb → b < w2.heap.size → (w8.setCell ⟨pb, 4, none⟩ r).heap[b]? = w2.heap[b]? := fun b hb hn hl => (hset b hn).trans (hsame b hl (fun e => by have := (hown b e).1; omega))
  refine ⟨⟨v, (hk rb (by omega) (by omega) (Qag q1)).trans q1, a, cap, q2, q3, q4, fun j t hj => ?_⟩, hR.num, hR.len, hR.end_⟩
  obtain ⟨b, o, e1, e2, e3⟩ := q5 j t hj
  exact ⟨b, o, e1, e2, e3.same (hk b (by omega) (by omega) e3.lt)⟩
 have hs := (Below.refl 0 w8).setCell (p := ⟨pb, 4, none⟩) (Nat.zero_le _) r
 refine ⟨hs.os.trans (g8.os.trans k2.os), hs.tape.trans (g8.tape.trans k2.tape), hs.output.trans (g8.output.trans k2.output), by omega, fun b hb hn hm => ?_⟩
 rw [hset b hm, hsame b (by omega) (fun e => by have := (hown b e).1; omega)]
 exact k2.block b (by omega) hn
end
end Go.Proofs.YtccehgfecaamoaaGreatDoor
