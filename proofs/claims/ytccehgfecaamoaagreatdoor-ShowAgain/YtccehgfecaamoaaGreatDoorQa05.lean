/- Walk of Tokens. Walk of Tokens: its rounds. A program's tokens as a program: the plain reading. -/
import Derived.Test.YtccehgfecaamoaaGreatDoorQa04
import Derived.Deep.WholeRow
import Derived.Test.YtccehgfecaamoaaGreatDoorQa01
set_option maxRecDepth 100000
set_option maxHeartbeats 32000000
namespace Go.Proofs.YtccehgfecaamoaaGreatDoor
section
open Go.RowKit
def tokVals (t : Tok) : List Value := [.int .i64 t.kind, str t.text, .int .i64 t.num, .int .i64 (t.at_ : Int)]
def tokCells (l : List Tok) : List Value := l.flatMap tokVals
theorem Qia (l : List Tok) (t : Tok) : tokCells (l ++ [t]) = tokCells l ++ tokVals t := by simp [tokCells]
def Out.toks : Out → List Tok
 | .ok l => l
 | .bad _ _ => []
def Out.why : Out → Int
 | .ok _ => 0
 | .bad w _ => w
def Out.fa : Out → Int
 | .ok _ => 0
 | .bad _ a => (a : Int)
def lexP (l : Txt) : Out := if 65536 < l.length then .bad 2 0 else scan 0 l
def TokAns (o : Out) (w w2 : World) (e : Ending) : Prop := ∃ v, e = .returned (.tuple #[v, .agg #[.int .i64 o.why, .int .i64 o.fa]]) ∧ w2.ownsRow w.heap.size 83 4 v o.toks.length (tokCells o.toks) ∧ Below w.heap.size w w2

def GSt (s : ByteArray) (k : Nat) (a why fa : Int) : Prop :=
 (why = 0 ∧ fa = 0 ∧ ∃ m : Nat, a = (m : Int) ∧ k ≤ m ∧ m ≤ s.size ∧ gapAt (s.data.toList.drop m) = .none ∧ scan k (s.data.toList.drop k) = scan m (s.data.toList.drop m)) ∨
 (why = 7 ∧ a = 0 ∧ ∃ m : Nat, fa = (m : Int) ∧ scan k (s.data.toList.drop k) = .bad 7 m)
theorem Qpj {s : ByteArray} {k : Nat} {e : Ending} (h : GapEnd s k e) : ∃ a why fa, e = .returned (.tuple #[.int .i64 a, .agg #[.int .i64 why, .int .i64 fa]]) ∧ GSt s k a why fa := by
 obtain ⟨m, hg, ⟨h1, rfl⟩ | ⟨h1, rfl⟩⟩ := h
 · exact ⟨_, _, _, rfl, .inr ⟨rfl, rfl, m, rfl, by rw [hg.2.2, Qdj h1]⟩⟩
 · exact ⟨_, _, _, rfl, .inl ⟨rfl, rfl, m, rfl, hg.1, hg.2.1, h1, hg.2.2⟩⟩

structure TkInv (s : ByteArray) (w : World) (fb : Nat) (v : Value) (wr : World) (toks : List Tok) (a why fa : Int) : Prop where
 own : wr.ownsRow (w.heap.size + 1) 83 4 v toks.length (tokCells toks)
 bel : Below w.heap.size w wr
 rb : wr.heap[w.heap.size]? = some fltZ
 fbx : wr.heap[fb]? = some (.cells #[.int .i64 why, .int .i64 fa] 31)
 fb1 : w.heap.size + 1 ≤ fb
 st : (why = 0 ∧ fa = 0 ∧ ∃ m : Nat, a = (m : Int) ∧ m ≤ s.size ∧ toks.length ≤ m ∧ gapAt (s.data.toList.drop m) = .none ∧ scan 0 s.data.toList = (scan m (s.data.toList.drop m)).app toks) ∨
  (why = 7 ∧ a = 0 ∧ ∃ m : Nat, fa = (m : Int) ∧ scan 0 s.data.toList = .bad 7 m)
def TkRel (s : ByteArray) (w : World) (fb : Nat) (v i : Value) (wr : World) : Prop :=
 ∃ (toks : List Tok) (a why fa : Int), i = .int .i64 a ∧ Hid (TkInv s w fb v wr toks a why fa)
def fltOf : Option Value → Int
 | some (.int _ q) => q
 | _ => 1
def tkMu (n fb : Nat) (i : Value) (wr : World) : Nat := if fltOf (wr.cell? ⟨fb, 0, none⟩) = 0 then n + 1 - (intOf i).toNat else 0

theorem Qth {s : ByteArray} {w w1 : World} {a why fa : Int} (b1 : Below (w.heap.size + 1) (w.alloc fltZ) w1) (hg : GSt s 0 a why fa) :
  TkInv s w w1.heap.size (.slice none 0 0) (w1.alloc (.cells #[.int .i64 why, .int .i64 fa] 31)) [] a why fa := by
 have hs := b1.size
 simp at hs
 refine ⟨World.ownsRow_nil _ _ _ _, ?_, ?_, heap_alloc_new w1 _, hs, ?_⟩
 · exact (((Below.refl w.heap.size w).alloc (Nat.le_refl _) _).trans (b1.mono (by omega))).alloc (by omega) _
 ·
  rw [Lib.alloc_old w1 _ _ (by omega), b1.block _ (by omega)]
  exact heap_alloc_new w _
 rcases hg with ⟨h1, h2, m, h3, _, h5, h6, h7⟩ | ⟨h1, h2, m, h3, h4⟩
 ·
  refine .inl ⟨h1, h2, m, h3, h5, Nat.zero_le _, h6, ?_⟩
  rw [List.drop_zero] at h7
  rw [h7]
  cases scan m (s.data.toList.drop m) <;> rfl
 · exact .inr ⟨h1, h2, m, h3, by rw [List.drop_zero] at h4; exact h4⟩

theorem Qkk (s : ByteArray) (hl : 65536 < s.size) (hs : s.size ≤ 281474976710656) (w : World) :
  Calls Tryz.prog 11 #[.string s] w fun e w' => TokAns (lexP s.data.toList) w w' e := by
 have H := hide (show lexP s.data.toList = .bad 2 0 by unfold lexP; rw [← Qbb, if_pos hl])
 go_enter Tryz.func11, Tryz.ntmps11
 go_wp2_with fail
 refine bodyPost_ret (v := .tuple #[.slice none 0 0, .agg #[.int .i64 2, .int .i64 0]]) (by simp [results, Tryz.results11, go_sem]) rfl ?_
 rw [Qa H]
 exact ⟨_, rfl, World.ownsRow_nil _ _ _ _, (Below.refl _ w).alloc (Nat.le_refl _) _⟩

theorem out_own {w wr w2 : World} {v : Value} {toks : List Tok} (h : wr.ownsRow (w.heap.size + 1) 83 4 v toks.length (tokCells toks))
  (hb : ∀ k, w.heap.size + 1 ≤ k → w2.heap[k]? = wr.heap[k]?) : w2.ownsRow w.heap.size 83 4 v toks.length (tokCells toks) := by
 refine ⟨h.1, ?_⟩
 rcases h.2 with h | ⟨g, cap, cur, hv, hg, hh, h4, h5, h6, h7⟩
 · exact .inl h
 · exact .inr ⟨g, cap, cur, hv, by omega, by rw [hb g hg]; exact hh, h4, h5, h6, h7⟩

theorem infoTok : (Tryz.prog.info? 83).map (fun i => (i.zero, i.size, i.bytes)) = some (some (.agg #[.int .i64 0, .string ⟨#[]⟩, .int .i64 0, .int .i64 0]), 4, 40) := by kernel_rfl
theorem Qjw : ∃ i0 : TypeInfo, Tryz.prog.info? 83 = some i0 ∧ i0.zero = some (.agg #[.int .i64 0, .string ⟨#[]⟩, .int .i64 0, .int .i64 0]) ∧ i0.size = 4 ∧ i0.bytes = 40 := by
 obtain ⟨i0, hi, hi3⟩ := Option.map_eq_some_iff.1 infoTok
 simp only [Prod.mk.injEq] at hi3
 exact ⟨i0, hi, hi3⟩
abbrev six (w : World) (b c : Nat) (q0 q1 q2 q3 q4 q5 : Value) : World :=
 (((((w.setCell ⟨b, 0, none⟩ q0).setCell ⟨b, 1, none⟩ q1).setCell ⟨b, 2, none⟩ q2).setCell ⟨b, 3, none⟩ q3).setCell ⟨c, 0, none⟩ q4).setCell ⟨c, 1, none⟩ q5
theorem Qfz (w : World) (b c : Nat) (q0 q1 q2 q3 q4 q5 : Value) (k : Nat) (hb : k ≠ b) (hc : k ≠ c) : (six w b c q0 q1 q2 q3 q4 q5).heap[k]? = w.heap[k]? := by
 rw [heap_setCell_other _ _ _ _ hc, heap_setCell_other _ _ _ _ hc, heap_setCell_other _ _ _ _ hb, heap_setCell_other _ _ _ _ hb, heap_setCell_other _ _ _ _ hb, heap_setCell_other _ _ _ _ hb]
theorem Qkg (w : World) (b c : Nat) (q0 q1 q2 q3 q4 q5 p0 p1 : Value) (hne : c ≠ b) (h : w.heap[c]? = some (.cells #[p0, p1] 31)) : (six w b c q0 q1 q2 q3 q4 q5).heap[c]? = some (.cells #[q4, q5] 31) := by
 have h0 : ((((w.setCell ⟨b, 0, none⟩ q0).setCell ⟨b, 1, none⟩ q1).setCell ⟨b, 2, none⟩ q2).setCell ⟨b, 3, none⟩ q3).heap[c]? = some (.cells #[p0, p1] 31) := by
  rw [heap_setCell_other _ _ _ _ hne, heap_setCell_other _ _ _ _ hne, heap_setCell_other _ _ _ _ hne, heap_setCell_other _ _ _ _ hne, h]
 have h1 := heap_setCell_same _ c 0 _ _ q4 h0
 exact heap_setCell_same _ c 1 _ _ q5 h1
theorem Qkl (w : World) (c : Nat) (q4 q5 p0 p1 : Value) (h : w.heap[c]? = some (.cells #[p0, p1] 31)) : ((w.setCell ⟨c, 0, none⟩ q4).setCell ⟨c, 1, none⟩ q5).heap[c]? = some (.cells #[q4, q5] 31) :=
 heap_setCell_same _ c 1 _ _ q5 (heap_setCell_same _ c 0 _ _ q4 h)
theorem Qls {w w' : World} {B : Nat} {v : Value} {n : Nat} {xs : List Value} (h : w.ownsRow B 83 4 v n xs) (hb : ∀ (g : Nat) (cur : Array Value), w.heap[g]? = some (.cells cur 83) → w'.heap[g]? = w.heap[g]?) : w'.ownsRow B 83 4 v n xs := by
 refine ⟨h.1, ?_⟩
 rcases h.2 with h | ⟨g, cap, cur, hv, hg, hh, h4, h5, h6, h7⟩
 · exact .inl h
 · exact .inr ⟨g, cap, cur, hv, hg, by rw [hb g cur hh]; exact hh, h4, h5, h6, h7⟩
theorem Qiy {w : World} {B : Nat} {v : Value} {n : Nat} {xs : List Value} (h : w.ownsRow B 83 4 v n xs) {g : Nat} (hg : v.ownBlock = some g) : ∃ cur, w.heap[g]? = some (.cells cur 83) := by
 rcases h.2 with ⟨rfl, _⟩ | ⟨g', cap, cur, rfl, _, hh, _⟩
 · cases hg
 injection hg with hg
 subst hg
 exact ⟨cur, hh⟩
theorem own_six {wr w2 : World} {fb : Nat} {p0 p1 : Value} {B : Nat} {v : Value} {n : Nat} {xs : List Value} (h : wr.ownsRow B 83 4 v n xs) (hF : wr.heap[fb]? = some (.cells #[p0, p1] 31))
  (b2 : Below (wr.heap.size + 1) (wr.alloc tokZ) w2) (q0 q1 q2 q3 q4 q5 : Value) : (six w2 wr.heap.size fb q0 q1 q2 q3 q4 q5).ownsRow B 83 4 v n xs := by
 refine Qls h fun g cur hg => ?_
 have hlt : g < wr.heap.size := (Array.getElem?_eq_some_iff.1 hg).1
 have hne : g ≠ fb := by
  rintro rfl
  rw [hF] at hg
  injection hg with hg
  injection hg with _ hg _
  exact absurd hg (by decide)
 rw [Qfz _ _ _ _ _ _ _ _ _ g (by omega) hne, b2.block _ (by omega), Lib.alloc_old wr _ _ hlt]
theorem Qtj (wr : World) (q0 q1 q2 q3 : Value) : ∀ j u, ([q0, q1, q2, q3] : List Value)[j]? = some u → (wr.alloc (.cells #[q0, q1, q2, q3] 83)).cell? ((⟨wr.heap.size, 0, none⟩ : Addr).add j) = some u := by
 intro j u hj
 match j, hj with
 | 0, hj => simp at hj; subst hj; simp [Addr.add]
 | 1, hj => simp at hj; subst hj; simp [Addr.add]
 | 2, hj => simp at hj; subst hj; simp [Addr.add]
 | 3, hj => simp at hj; subst hj; simp [Addr.add]
theorem tok_one (k n m : Int) (b : ByteArray) : ∀ u ∈ ([.int .i64 k, .string b, .int .i64 n, .int .i64 m] : List Value), u.oneCell' = true := by
 intro u hu
 simp at hu
 rcases hu with rfl | rfl | rfl | rfl <;> rfl
theorem Qmk (s : ByteArray) (k : Nat) (a ml : Int) (ha : a = (k : Int)) (hk : k ≤ s.size) (hs : s.size ≤ 65536) (w : World) (hm : w.cell? ⟨2, 0, none⟩ = some (.int .i64 ml)) :
  Calls Tryz.prog 22 #[.string s, .int .i64 a] w fun e w' => GapEnd s k e ∧ Below w.heap.size w w' := by
 subst ha
 exact Qfn s k ml hk hs w hm
theorem Qnr (toks : List Tok) (o : Out) (w : Int) (a : Nat) (h : o = .bad w a) : o.app toks = .bad w a := by subst h; rfl

theorem tk_mid {s : ByteArray} {w wr w2 w4 : World} {fb m : Nat} {v : Value} {toks : List Tok} {kd nm : Int} {tx : Txt}
  (h : TkInv s w fb v wr toks (m : Int) 0 0)
  (b2 : Below (wr.heap.size + 1) (wr.alloc tokZ) w2)
  (hgrow : ((six w2 wr.heap.size fb (.int .i64 kd) (.string ⟨tx.toArray⟩) (.int .i64 nm) (.int .i64 (m : Int)) (.int .i64 0) (.int .i64 0)).alloc (.cells #[.int .i64 kd, .string ⟨tx.toArray⟩, .int .i64 nm, .int .i64 (m : Int)] 83)).grownBy w4 v.ownBlock) :
  Below w.heap.size w w4 ∧ w4.heap[fb]? = some (.cells #[.int .i64 0, .int .i64 0] 31) := by
 have hfl : fb < wr.heap.size := (Array.getElem?_eq_some_iff.1 h.fbx).1
 have hbs := h.bel.size
 have hfb := h.fb1
 have h2s := b2.size
 simp at h2s
 have hF : ∀ cur, ¬ wr.heap[fb]? = some (.cells cur 83) := fun cur hc => by
  rw [h.fbx] at hc
  injection hc with hc
  injection hc with _ hc _
  exact absurd hc (by decide)
 have hvb : ∀ g, v.ownBlock = some g → w.heap.size + 1 ≤ g ∧ g < wr.heap.size ∧ g ≠ fb := fun g hg => by
  obtain ⟨cur, hc⟩ := Qiy h.own hg
  exact ⟨(h.own.lt g hg).1, (h.own.lt g hg).2, fun e => hF cur (by rw [← e]; exact hc)⟩
 have hgs := hgrow.size
 simp at hgs
 have f4 : w4.heap[fb]? = some (.cells #[.int .i64 0, .int .i64 0] 31) := by
  rw [hgrow.block fb (by simp; omega) (fun e => (hvb fb e.symm).2.2 rfl), Lib.alloc_old _ _ _ (by simp; omega)]
  refine Qkg _ _ _ _ _ _ _ _ _ (.int .i64 0) (.int .i64 0) (by omega) ?_
  rw [b2.block _ (by omega), Lib.alloc_old wr _ _ hfl]
  exact h.fbx
 have bel2 : Below w.heap.size w w2 := (h.bel.alloc (by omega) _).trans (b2.mono (by omega))
 have bel4 : Below w.heap.size w w4 :=
  ((Qah bel2 (b := wr.heap.size) (c := fb) (by omega) (by omega) _ _ _ _ _ _).alloc (by simp; omega) _).grown hgrow (by simp; omega) (fun g hg => by have := (hvb g hg).1; omega)
 exact ⟨bel4, f4⟩

theorem tk_next {s : ByteArray} {w wr w2 w4 w5 : World} {fb m n : Nat} {v v' : Value} {toks : List Tok} {kd nm : Int} {tx : Txt} {a why fa : Int}
  (h : TkInv s w fb v wr toks (m : Int) 0 0) (hn : 0 < n) (htl : toks.length ≤ m) (hgap : gapAt (s.data.toList.drop m) = .none) (ht : tokAt (s.data.toList.drop m) = .tok kd tx nm n)
  (hsc : scan 0 s.data.toList = (scan m (s.data.toList.drop m)).app toks)
  (b2 : Below (wr.heap.size + 1) (wr.alloc tokZ) w2)
  (hown : w4.ownsRow (w.heap.size + 1) 83 4 v' (toks.length + 1) (tokCells toks ++ [.int .i64 kd, .string ⟨tx.toArray⟩, .int .i64 nm, .int .i64 (m : Int)]))
  (hgrow : ((six w2 wr.heap.size fb (.int .i64 kd) (.string ⟨tx.toArray⟩) (.int .i64 nm) (.int .i64 (m : Int)) (.int .i64 0) (.int .i64 0)).alloc (.cells #[.int .i64 kd, .string ⟨tx.toArray⟩, .int .i64 nm, .int .i64 (m : Int)] 83)).grownBy w4 v.ownBlock)
  (b5 : Below w4.heap.size w4 w5) (hg : GSt s (m + n) a why fa) :
  TkInv s w fb v' ((w5.setCell ⟨fb, 0, none⟩ (.int .i64 why)).setCell ⟨fb, 1, none⟩ (.int .i64 fa)) (toks ++ [⟨kd, tx, nm, m⟩]) a why fa ∧ ((why = 0 → (m : Int) < a) ∧ (why = 0 ∨ why = 7)) := by
 have hfl : fb < wr.heap.size := (Array.getElem?_eq_some_iff.1 h.fbx).1
 have hbs := h.bel.size
 have hfb := h.fb1
 have h2s := b2.size
 simp at h2s
 have hF : ∀ cur, ¬ wr.heap[fb]? = some (.cells cur 83) := fun cur hc => by
  rw [h.fbx] at hc
  injection hc with hc
  injection hc with _ hc _
  exact absurd hc (by decide)
 have hvb : ∀ g, v.ownBlock = some g → w.heap.size + 1 ≤ g ∧ g < wr.heap.size ∧ g ≠ fb := fun g hg => by
  obtain ⟨cur, hc⟩ := Qiy h.own hg
  exact ⟨(h.own.lt g hg).1, (h.own.lt g hg).2, fun e => hF cur (by rw [← e]; exact hc)⟩
 have hgs := hgrow.size
 simp at hgs
 have f4 : w4.heap[fb]? = some (.cells #[.int .i64 0, .int .i64 0] 31) := by
  rw [hgrow.block fb (by simp; omega) (fun e => (hvb fb e.symm).2.2 rfl), Lib.alloc_old _ _ _ (by simp; omega)]
  refine Qkg _ _ _ _ _ _ _ _ _ (.int .i64 0) (.int .i64 0) (by omega) ?_
  rw [b2.block _ (by omega), Lib.alloc_old wr _ _ hfl]
  exact h.fbx
 have r4 : w4.heap[w.heap.size]? = some fltZ := by
  rw [hgrow.block _ (by simp; omega) (fun e => by have := (hvb _ e.symm).1; omega), Lib.alloc_old _ _ _ (by simp; omega),
   Qfz _ _ _ _ _ _ _ _ _ _ (by omega) (by omega), b2.block _ (by omega), Lib.alloc_old wr _ _ (by omega)]
  exact h.rb
 have bel2 : Below w.heap.size w w2 := (h.bel.alloc (by omega) _).trans (b2.mono (by omega))
 have bel4 : Below w.heap.size w w4 :=
  ((Qah bel2 (b := wr.heap.size) (c := fb) (by omega) (by omega) _ _ _ _ _ _).alloc (by simp; omega) _).grown hgrow (by simp; omega) (fun g hg => by have := (hvb g hg).1; omega)
 have hfl4 : fb < w4.heap.size := by omega
 have f5 : w5.heap[fb]? = some (.cells #[.int .i64 0, .int .i64 0] 31) := by rw [b5.block _ hfl4]; exact f4
 have n1 : w.heap.size ≠ fb := by omega
 refine ⟨⟨?_, ?_, ?_, Qkl _ _ _ _ _ _ f5, h.fb1, ?_⟩, ?_, ?_⟩
 ·
  have e : tokCells (toks ++ [⟨kd, tx, nm, m⟩]) = tokCells toks ++ [.int .i64 kd, .string ⟨tx.toArray⟩, .int .i64 nm, .int .i64 (m : Int)] := Qia _ _
  rw [e, List.length_append]
  refine Qls hown fun g cur hg => ?_
  have hg4 : g < w4.heap.size := (Array.getElem?_eq_some_iff.1 hg).1
  have hne : g ≠ fb := by
   rintro rfl
   rw [f4] at hg
   injection hg with hg
   injection hg with _ hg _
   exact absurd hg (by decide)
  rw [heap_setCell_other _ _ _ _ hne, heap_setCell_other _ _ _ _ hne, b5.block _ hg4]
 · exact ((bel4.trans (b5.mono bel4.size)).setCell (p := ⟨fb, 0, none⟩) (by show w.heap.size ≤ fb; omega) _).setCell (p := ⟨fb, 1, none⟩) (by show w.heap.size ≤ fb; omega) _
 ·
  rw [heap_setCell_other _ _ _ _ n1, heap_setCell_other _ _ _ _ n1, b5.block _ (by omega)]
  exact r4
 ·
  have hs1 : scan 0 s.data.toList = (scan (m + n) (s.data.toList.drop (m + n))).app (toks ++ [⟨kd, tx, nm, m⟩]) := by
   rw [hsc, Qfc hgap ht, Qrx, List.drop_drop]
  rcases hg with ⟨h1, h2, j, h3, h4, h5, h6, h7⟩ | ⟨h1, h2, j, h3, h4⟩
  · exact .inl ⟨h1, h2, j, h3, h5, by rw [List.length_append]; simp; omega, h6, by rw [hs1, h7]⟩
  · exact .inr ⟨h1, h2, j, h3, by rw [hs1]; exact Qnr _ _ _ _ h4⟩
 ·
  intro h0
  rcases hg with ⟨h1, h2, j, h3, h4, h5, h6, h7⟩ | ⟨h1, h2, j, h3, h4⟩
  · omega
  · omega
 rcases hg with h | h
 · exact .inl h.1
 · exact .inr h.1
end
section
open Go.RowKit
def tkStore (p v : Value) : Sem Unit := Instr.storeAt 83 p v
theorem Qgr (p v : Value) : Instr.storeAt 83 p v = tkStore p v := rfl
def flStore (p v : Value) : Sem Unit := Instr.storeAt 31 p v
theorem Qmy (p v : Value) : Instr.storeAt 31 p v = flStore p v := rfl
def tkLoad (x : Value) : Sem Value := Instr.loadAt 83 x
theorem Qiv (x : Value) : Instr.loadAt 83 x = tkLoad x := rfl
def flLoad (x : Value) : Sem Value := Instr.loadAt 31 x
theorem Qpv (x : Value) : Instr.loadAt 31 x = flLoad x := rfl
theorem Qrd : (Tryz.prog.info? 83).map (·.size) = some 4 := by kernel_rfl
theorem Qkh : (Tryz.prog.info? 31).map (·.size) = some 2 := by kernel_rfl

theorem fl_new (w : World) (a b : Int) : (flStore (.pointer (some ⟨w.heap.size, 0, none⟩)) (.agg #[.int .i64 a, .int .i64 b])).run Tryz.prog (w.alloc (.cells #[.int .i64 0, .int .i64 0] 31)) = .ok () (w.alloc (.cells #[.int .i64 a, .int .i64 b] 31)) :=
 run_storeAt_new w 31 _ _ Qkh rfl (by simp [Value.oneCell'])
theorem Qhi {w : World} {b : Nat} {p0 p1 : Value} (h : w.heap[b]? = some (.cells #[p0, p1] 31)) (q0 q1 : Int) :
  (flStore (.pointer (some ⟨b, 0, none⟩)) (.agg #[.int .i64 q0, .int .i64 q1])).run Tryz.prog w = .ok () ((w.setCell ⟨b, 0, none⟩ (.int .i64 q0)).setCell ⟨b, 1, none⟩ (.int .i64 q1)) := by
 refine run_storeAt_mid w b 0 31 #[.int .i64 q0, .int .i64 q1] (fun j hj => ⟨?_, Lib.frozen_of_heap h _⟩) Qkh (by simp [Value.oneCell'])
 have hj : j < 2 := hj
 rw [Lib.cell_of_heap h]
 rcases (by omega : j = 0 ∨ j = 1) with rfl | rfl <;> rfl
theorem Qti {w : World} {b : Nat} {p0 p1 p2 p3 : Value} (h : w.heap[b]? = some (.cells #[p0, p1, p2, p3] 83)) (k n a : Int) (t : ByteArray) :
  (tkStore (.pointer (some ⟨b, 0, none⟩)) (.agg #[.int .i64 k, .string t, .int .i64 n, .int .i64 a])).run Tryz.prog w =
   .ok () ((((w.setCell ⟨b, 0, none⟩ (.int .i64 k)).setCell ⟨b, 1, none⟩ (.string t)).setCell ⟨b, 2, none⟩ (.int .i64 n)).setCell ⟨b, 3, none⟩ (.int .i64 a)) := by
 refine run_storeAt_mid w b 0 83 #[.int .i64 k, .string t, .int .i64 n, .int .i64 a] (fun j hj => ⟨?_, Lib.frozen_of_heap h _⟩) Qrd (by simp [Value.oneCell'])
 have hj : j < 4 := hj
 rw [Lib.cell_of_heap h]
 rcases (by omega : j = 0 ∨ j = 1 ∨ j = 2 ∨ j = 3) with rfl | rfl | rfl | rfl <;> rfl
theorem Qpc {w : World} {b : Nat} {q0 q1 : Value} (h : w.heap[b]? = some (.cells #[q0, q1] 31)) :
  (flLoad (.pointer (some ⟨b, 0, none⟩))).run Tryz.prog w = .ok (.agg #[q0, q1]) w := by
 refine run_loadAt_mid w b 0 31 [q0, q1] _ (fun q v hq => ?_) Tryz.underlying31 rfl Qkh
 rw [Lib.cell_of_heap h, Nat.zero_add, ← hq]
 simp
theorem tk_load {w : World} {b : Nat} {q0 q1 q2 q3 : Value} (h : w.heap[b]? = some (.cells #[q0, q1, q2, q3] 83)) :
  (tkLoad (.pointer (some ⟨b, 0, none⟩))).run Tryz.prog w = .ok (.agg #[q0, q1, q2, q3]) w := by
 refine run_loadAt_mid w b 0 83 [q0, q1, q2, q3] _ (fun q v hq => ?_) Tryz.underlying83 rfl Qrd
 rw [Lib.cell_of_heap h, Nat.zero_add, ← hq]
 simp
theorem six_tok (w : World) (b c : Nat) (q0 q1 q2 q3 q4 q5 p0 p1 p2 p3 : Value) (hne : b ≠ c) (h : w.heap[b]? = some (.cells #[p0, p1, p2, p3] 83)) : (six w b c q0 q1 q2 q3 q4 q5).heap[b]? = some (.cells #[q0, q1, q2, q3] 83) := by
 rw [heap_setCell_other _ _ _ _ hne, heap_setCell_other _ _ _ _ hne]
 exact heap_setCell_same _ b 3 _ _ q3 (heap_setCell_same _ b 2 _ _ q2 (heap_setCell_same _ b 1 _ _ q1 (heap_setCell_same _ b 0 _ _ q0 h)))

structure Wrote (w wr w2 w4 : World) (fb : Nat) (T : TV) : Prop where
 eq : w4 = six w2 wr.heap.size fb (.int .i64 T.kd) (.string T.tx) (.int .i64 T.nm) (.int .i64 T.at_) (.int .i64 T.why) (.int .i64 T.fa)
 ft : w4.heap[wr.heap.size]? = some (.cells #[.int .i64 T.kd, .string T.tx, .int .i64 T.nm, .int .i64 T.at_] 83)
 ff : w4.heap[fb]? = some (.cells #[.int .i64 T.why, .int .i64 T.fa] 31)
 fr : w4.heap[w.heap.size]? = some fltZ
 bel : Below w.heap.size w w4
theorem wrote {s : ByteArray} {w wr w2 : World} {fb : Nat} {v : Value} {toks : List Tok} {a : Int} (h : TkInv s w fb v wr toks a 0 0) (b2 : Below (wr.heap.size + 1) (wr.alloc tokZ) w2) (T : TV) :
  ∃ w3 w4, (tkStore (.pointer (some ⟨wr.heap.size, 0, none⟩)) (.agg #[.int .i64 T.kd, .string T.tx, .int .i64 T.nm, .int .i64 T.at_])).run Tryz.prog w2 = .ok () w3 ∧
   (flStore (.pointer (some ⟨fb, 0, none⟩)) (.agg #[.int .i64 T.why, .int .i64 T.fa])).run Tryz.prog w3 = .ok () w4 ∧ Wrote w wr w2 w4 fb T := by
 have hsz := h.bel.size
 have hfb := h.fb1
 have hfl : fb < wr.heap.size := (Array.getElem?_eq_some_iff.1 h.fbx).1
 have bxT : w2.heap[wr.heap.size]? = some tokZ := by rw [b2.block _ (by omega)]; exact heap_alloc_new wr _
 have bxF : w2.heap[fb]? = some (.cells #[.int .i64 0, .int .i64 0] 31) := by rw [b2.block _ (by omega), Lib.alloc_old wr _ _ hfl]; exact h.fbx
 have bxR : w2.heap[w.heap.size]? = some fltZ := by rw [b2.block _ (by omega), Lib.alloc_old wr _ _ (by omega)]; exact h.rb
 have n1 : fb ≠ wr.heap.size := by omega
 have e3 : ((((w2.setCell ⟨wr.heap.size, 0, none⟩ (.int .i64 T.kd)).setCell ⟨wr.heap.size, 1, none⟩ (.string T.tx)).setCell ⟨wr.heap.size, 2, none⟩ (.int .i64 T.nm)).setCell ⟨wr.heap.size, 3, none⟩ (.int .i64 T.at_)).heap[fb]? = some (.cells #[.int .i64 0, .int .i64 0] 31) := by
  rw [heap_setCell_other _ _ _ _ n1, heap_setCell_other _ _ _ _ n1, heap_setCell_other _ _ _ _ n1, heap_setCell_other _ _ _ _ n1, bxF]
 have bel2 : Below w.heap.size w w2 := (h.bel.alloc (by omega) _).trans (b2.mono (by omega))
 exact ⟨_, _, Qti bxT _ _ _ _, Qhi e3 _ _, ⟨rfl, six_tok _ _ _ _ _ _ _ _ _ _ _ _ _ n1.symm bxT, Qkg _ _ _ _ _ _ _ _ _ _ _ n1 bxF,
  by rw [Qfz _ _ _ _ _ _ _ _ _ _ (by omega) (by omega)]; exact bxR, Qah bel2 (by omega) (by omega) _ _ _ _ _ _⟩⟩
theorem last {w wr : World} (hb : Below w.heap.size w wr) (hr : wr.heap[w.heap.size]? = some fltZ) (p q : Int) :
  ∃ w9, (flStore (.pointer (some ⟨w.heap.size, 0, none⟩)) (.agg #[.int .i64 p, .int .i64 q])).run Tryz.prog wr = .ok () w9 ∧ w9.cell? ⟨w.heap.size, 0, none⟩ = some (.int .i64 p) ∧ w9.cell? ⟨w.heap.size, 1, none⟩ = some (.int .i64 q) ∧
   Below w.heap.size w w9 ∧ (∀ k, w.heap.size + 1 ≤ k → w9.heap[k]? = wr.heap[k]?) := by
 have h9 := Qkl wr w.heap.size (.int .i64 p) (.int .i64 q) _ _ hr
 refine ⟨_, Qhi hr p q, by rw [Lib.cell_of_heap h9]; rfl, by rw [Lib.cell_of_heap h9]; rfl, (hb.setCell (p := ⟨w.heap.size, 0, none⟩) (Nat.le_refl _) _).setCell (p := ⟨w.heap.size, 1, none⟩) (Nat.le_refl _) _, fun k hk => ?_⟩
 rw [heap_setCell_other _ _ _ _ (by show k ≠ w.heap.size; omega), heap_setCell_other _ _ _ _ (by show k ≠ w.heap.size; omega)]

attribute [local go_sem ↓] Qgr Qmy Qiv Qpv
theorem Qnh (s : ByteArray) (hs : s.size ≤ 65536) (w : World) (hE : Env w) :
  Calls Tryz.prog 11 #[.string s] w fun e w' => TokAns (lexP s.data.toList) w w' e := by
 have H := hide (show lexP s.data.toList = scan 0 s.data.toList by unfold lexP; rw [← Qbb, if_neg (by omega)])
 have hb0 : Below w.heap.size w (w.alloc fltZ) := (Below.refl w.heap.size w).alloc (Nat.le_refl _) _
 obtain ⟨ml, hml⟩ := (hE.later hb0).ml
 have HG := hide (Qfn s 0 ml (Nat.zero_le _) hs (w.alloc fltZ) hml)
 have HE := hide hE
 clear hml hE hb0
 go_enter Tryz.func11, Tryz.ntmps11
 go_wp2_with fail
 refine (Qa HG).mono ?_
 rintro e w1 ⟨hge, b1⟩
 obtain ⟨a, why, fa, rfl, hst⟩ := Qpj hge
 have HT := hide (Qth (by simpa using b1) hst)
 have hS0 := fl_new w1 why fa
 obtain ⟨wr0, hwr0⟩ : ∃ wr0, w1.alloc (.cells #[.int .i64 why, .int .i64 fa] 31) = wr0 := ⟨_, rfl⟩
 rw [hwr0] at HT hS0
 clear hge b1 hst HG hwr0
 go_wp2_with fail
 obtain ⟨fb, hfb2⟩ : ∃ fb, w1.heap.size = fb := ⟨_, rfl⟩
 rw [hfb2] at HT
 rw [hfb2]
 clear hS0 hfb2
 go_loopw [4, 5] (fun v i wr => TkRel s w fb v i wr) (fun _ i wr => tkMu s.size fb i wr)
 case atStart => exact ⟨[], a, why, fa, rfl, HT⟩
 clear HT
 obtain ⟨toks, a, why, fa, rfl, HH⟩ := hrel
 have c0 : wr.cell? ⟨fb, 0, none⟩ = some (.int .i64 why) := by rw [Lib.cell_of_heap (Qa HH).fbx]; rfl
 rcases (Qa HH).st with ⟨rfl, rfl, m, rfl, hms, htl, hgap, hsc⟩ | ⟨rfl, rfl, m, rfl, hsc⟩
 ·
  by_cases hlt : m < s.size
  ·
   have hsz := (Qa HH).bel.size
   have hEr := (Qa HE).later (Qa HH).bel
   have HTK := hide (Qrh s m hlt hs (wr.alloc tokZ) (hEr.later ((Below.refl wr.heap.size wr).alloc (Nat.le_refl _) _)))
   have HHH := HH
   clear hEr HH
   go_wp2_with fail
   refine (Qa HTK).mono ?_
   rintro e w2 ⟨rfl, b2⟩
   have b2' : Below (wr.heap.size + 1) (wr.alloc tokZ) w2 := by simpa using b2
   clear b2 HTK c0
   cases ht : tokAt (s.data.toList.drop m) with
   | bad why o =>
    have hwz2 : (why != 0) = true := bne_iff_ne.2 (Qrg ht).1
    have HSC := hide (show scan 0 s.data.toList = .bad why (m + o) by
     rw [hsc]; exact Qnr _ _ _ _ (Qfa (by rw [Qaq s m hlt]; simp) hgap ht))
    obtain ⟨w3, w4, hS1, hS2, hW⟩ := wrote (Qa HHH) b2' (resT m (.bad why o))
    have c0 : w4.cell? ⟨fb, 0, none⟩ = some (.int .i64 why) := by rw [Lib.cell_of_heap hW.ff]; rfl
    have hL := Qpc (w := w4.drew) hW.ff
    obtain ⟨w9, hS9, z0, z1, bw, _⟩ := last (wr := w4.drew) hW.bel.drew hW.fr why ((m + o : Nat) : Int)
    have e : resT m (.bad why o) = ⟨0, ⟨#[]⟩, 0, 0, 0, why, ((m + o : Nat) : Int)⟩ := rfl
    rw [e] at hS1 hS2 hL ⊢
    obtain ⟨q, hq⟩ : ∃ q : Int, ((m + o : Nat) : Int) = q := ⟨_, rfl⟩
    rw [hq] at hS1 hS2 hS9 z1 hL ⊢
    have HQ := hide hq
    clear hsc hgap ht HHH hW b2' e hq
    go_wp2_with fail
    go_region
    all_goals
     go_wp2_with fail
     refine bodyPost_ret (v := .tuple #[.slice none 0 0, .agg #[.int .i64 why, .int .i64 q]]) (by simp [results, Tryz.results11, go_sem, z0, z1]) rfl ?_
     rw [Qa H, Qa HSC, ← Qa HQ]
     exact ⟨_, rfl, World.ownsRow_nil _ _ _ _, bw⟩
   | tok kd tx nm n =>
    have hp := Qeo ht
    rw [Qca] at hp
    obtain ⟨i0, hi, hz0, hz1, hz2⟩ := Qjw
    have HI := hide (show Tryz.prog.info? 83 = some i0 ∧ i0.zero = some (.agg #[.int .i64 0, .string ⟨#[]⟩, .int .i64 0, .int .i64 0]) ∧ i0.size = 4 ∧ i0.bytes = 40 from ⟨hi, hz0, hz1, hz2⟩)
    have HOW := hide (own_six (Qa HHH).own (Qa HHH).fbx b2' (.int .i64 kd) (.string ⟨tx.toArray⟩) (.int .i64 nm) (.int .i64 (m : Int)) (.int .i64 0) (.int .i64 0))
    have e : resT m (.tok kd tx nm n) = ⟨kd, ⟨tx.toArray⟩, nm, (m : Int), (m : Int) + (n : Int), 0, 0⟩ := by simp [resT]
    rw [e]
    obtain ⟨w3, w4, hS1, hS2, hW⟩ := wrote (Qa HHH) b2' ⟨kd, ⟨tx.toArray⟩, nm, (m : Int), (m : Int) + (n : Int), 0, 0⟩
    have c0 : w4.cell? ⟨fb, 0, none⟩ = some (.int .i64 0) := by rw [Lib.cell_of_heap hW.ff]; rfl
    have hL := tk_load hW.ft
    have hW4 := hW.bel.size
    have HEQ := hide hW.eq
    rw [← hW.eq] at HOW
    have HT := hide ht
    have HSC := hide hsc
    have HGP := hide hgap
    have HB2 := hide b2'
    have HBL := hide hW.bel
    clear hsc hgap ht hi hz0 hz1 hz2 b2' e hW
    go_wp2_with (at_builtin; refine wpList_append_own _ rfl _ _ 43 rfl (w.heap.size + 1) 83 i0 (.agg #[.int .i64 0, .string ⟨#[]⟩, .int .i64 0, .int .i64 0]) 4 40 Tryz.underlying43 (Qa HI).1 (Qa HI).2.1 (Qa HI).2.2.1 (Qa HI).2.2.2 rfl (by decide) _ _ _ rfl ((Qa HOW).alloc _) ⟨_, 0, none⟩ 1 1 [.int .i64 kd, .string ⟨tx.toArray⟩, .int .i64 nm, .int .i64 (m : Int)] rfl rfl (Qtj _ _ _ _ _) (tok_one _ _ _ _) (by unfold maxLen; omega) (by omega) (by simp; omega) ?_; intro v' w5 hown' hgrow _)
    have hgrow' := hgrow
    rw [Qa HEQ] at hgrow'
    have HGR := hide hgrow'
    have HON := hide hown'
    obtain ⟨bel5, f5⟩ := tk_mid (Qa HHH) (Qa HB2) hgrow'
    obtain ⟨ml, hml⟩ := ((Qa HE).later bel5).ml
    clear hgrow hgrow' hown' HOW HEQ HBL hL hS1 hS2 c0
    refine (Qmk s (m + n) _ ml (by omega) (by omega) hs _ hml).mono ?_
    rintro e w6 ⟨hge, b6⟩
    obtain ⟨a', why', fa', rfl, hst⟩ := Qpj hge
    have f6 : w6.heap[fb]? = some (.cells #[.int .i64 0, .int .i64 0] 31) := by rw [b6.block _ (Array.getElem?_eq_some_iff.1 f5).1]; exact f5
    have hS := Qhi f6 why' fa'
    have hN := tk_next (Qa HHH) hp.1 htl (Qa HGP) (Qa HT) (Qa HSC) (Qa HB2) (Qa HON) (Qa HGR) b6 hst
    have hc := Qkl w6 fb (.int .i64 why') (.int .i64 fa') _ _ f6
    obtain ⟨w7, hw7⟩ : ∃ w7, (w6.setCell ⟨fb, 0, none⟩ (.int .i64 why')).setCell ⟨fb, 1, none⟩ (.int .i64 fa') = w7 := ⟨_, rfl⟩
    rw [hw7] at hS hN hc
    have hmu : tkMu s.size fb (.int .i64 a') w7 < tkMu s.size fb (.int .i64 (m : Int)) wr := by
     unfold tkMu
     have e1 : w7.cell? ⟨fb, 0, none⟩ = some (.int .i64 why') := by rw [Lib.cell_of_heap hc]; rfl
     have e2 : wr.cell? ⟨fb, 0, none⟩ = some (.int .i64 0) := by rw [Lib.cell_of_heap (Qa HHH).fbx]; rfl
     rw [e1, e2]
     rw [show fltOf (some (.int .i64 why')) = why' from rfl, show fltOf (some (.int .i64 0)) = 0 from rfl, if_pos rfl]
     rw [show intOf (.int .i64 a') = a' from rfl, show intOf (.int .i64 (m : Int)) = (m : Int) from rfl]
     by_cases h0 : why' = 0
     ·
      rw [if_pos h0]
      have := hN.2.1 h0
      omega
     · rw [if_neg h0]; omega
    have HR := hide (show TkRel s w fb v' (.int .i64 a') w7 from ⟨_, _, _, _, rfl, hide hN.1⟩)
    have HMU := hide hmu
    clear hge b6 hst f5 f6 hN hc hw7 hmu bel5 hml HHH HON HGR
    go_wp2_with fail
    go_roundw
    case rel => exact Qa HR
    case measure => exact Qa HMU
  have HSC := hide (show scan 0 s.data.toList = .ok toks by rw [hsc, Qck s m (by omega), Qda]; simp [Out.app])
  have HO := hide (Qa HH).own
  obtain ⟨w9, hS9, z0, z1, bw, HO2⟩ := last (Qa HH).bel (Qa HH).rb 0 0
  have HO3 := hide (out_own (Qa HO) HO2)
  clear hsc hgap HH HO HO2
  go_wp2_with fail
  refine bodyPost_ret (v := .tuple #[u4, .agg #[.int .i64 0, .int .i64 0]]) (by simp [results, Tryz.results11, go_sem, z0, z1]) rfl ?_
  rw [Qa H, Qa HSC]
  exact ⟨u4, rfl, Qa HO3, bw⟩
 have HSC := hide hsc
 obtain ⟨w9, hS9, z0, z1, bw, _⟩ := last (wr := wr.drew) (Qa HH).bel.drew (Qa HH).rb 7 (m : Int)
 have hL := Qpc (w := wr.drew) (Qa HH).fbx
 clear hsc HH
 go_wp2_with fail
 go_region
 all_goals
  go_wp2_with fail
  refine bodyPost_ret (v := .tuple #[.slice none 0 0, .agg #[.int .i64 7, .int .i64 (m : Int)]]) (by simp [results, Tryz.results11, go_sem, z0, z1]) rfl ?_
  rw [Qa H, Qa HSC]
  exact ⟨_, rfl, World.ownsRow_nil _ _ _ _, bw⟩
end
section
/-- An expression. -/
inductive Ex where
 | mk (kind n : Int) (s : Txt) (kids : List Ex) (at_ : Int)
namespace Ex
def kind : Ex → Int | mk k _ _ _ _ => k
def num : Ex → Int | mk _ n _ _ _ => n
def txt : Ex → Txt | mk _ _ s _ _ => s
def kids : Ex → List Ex | mk _ _ _ l _ => l
def at_ : Ex → Int | mk _ _ _ _ a => a
/-- None. -/
def none : Ex := mk 0 0 [] [] 0
end Ex
structure Fld where
 name : Txt
 type : Txt
structure Ctr where
 name : Txt
 fields : List Fld
structure Typ where
 name : Txt
 sub : Txt
 ctors : List Ctr
 at_ : Int
structure Dcl where
 name : Txt
 cols : List Fld
 input : Bool
 output : Bool
 at_ : Int
structure Ini where
 name : Txt
 comp : Txt
 at_ : Int
structure Atm where
 rel : Txt
 args : List Ex
 at_ : Int
def Atm.none : Atm := ⟨[], [], 0⟩
structure Lt where
 kind : Int
 atom : Atm
 op : Txt
 l : Ex
 r : Ex
 at_ : Int
structure Cls where
 head : Atm
 body : List Lt
 at_ : Int
/-- A program; a component is its name, its bases, its body, its place. -/
inductive Pg where
 | mk (types : List Typ) (decls : List Dcl) (comps : List (Txt × List Txt × Pg × Int)) (inits : List Ini) (clauses : List Cls)
namespace Pg
def types : Pg → List Typ | mk a _ _ _ _ => a
def decls : Pg → List Dcl | mk _ a _ _ _ => a
def comps : Pg → List (Txt × List Txt × Pg × Int) | mk _ _ a _ _ => a
def inits : Pg → List Ini | mk _ _ _ a _ => a
def clauses : Pg → List Cls | mk _ _ _ _ a => a
def none : Pg := mk [] [] [] [] []
end Pg

/-- What a reading answers: a fault, with the tokens that are left there; or what was read, the tokens that are left, and how many items have begun. -/
inductive Rs (α : Type) where
 | bad (why at_ : Int) (left : List Tok)
 | ok (a : α) (left : List Tok) (items : Nat)
abbrev Pr (α : Type) := List Tok → Nat → Rs α
def Rs.bind {α β : Type} : Rs α → (α → Pr β) → Rs β
 | .bad w a l, _ => .bad w a l
 | .ok x l i, f => f x l i
def Rs.map {α β : Type} (f : α → β) : Rs α → Rs β
 | .bad w a l => .bad w a l
 | .ok x l i => .ok (f x) l i

section

variable (e : Nat)
/-- The n-th token from here; behind the last one stands one of no kind. -/
def ahd (n : Nat) (l : List Tok) : Tok := l.getD n ⟨0, [], 0, e⟩
def refuse {α : Type} (why : Int) : Pr α := fun l _ => .bad why (ahd e 0 l).at_ l
/-- The sign that is next; no text, if something else is. -/
def sgn (l : List Tok) : Txt := if (ahd e 0 l).kind = 4 then (ahd e 0 l).text else []
def want (s : Txt) : Pr Unit := fun l i => if sgn e l = s then .ok () (l.drop 1) i else refuse e 10 l i
def choose (ss : List Txt) : Pr Txt := fun l i => if sgn e l ∈ ss then .ok (ahd e 0 l).text (l.drop 1) i else refuse e 10 l i
def nmQ : Pr Txt := fun l i => if (ahd e 0 l).kind = 1 then .ok (ahd e 0 l).text (l.drop 1) i else refuse e 10 l i
/-- May a token name something new? -/
def isW1 (t : Tok) : Bool := decide (t.kind = 1) && decide (t.text ≠ [95]) && !t.text.contains 46
def wordQ : Pr Txt := fun l i => if isW1 (ahd e 0 l) = true then .ok (ahd e 0 l).text (l.drop 1) i else refuse e 10 l i
def callN (l : List Tok) : Bool := decide ((ahd e 0 l).kind = 1) && decide ((ahd e 1 l).kind = 4) && decide ((ahd e 1 l).text = [40])
/-- Parts with a sign between them, at most some. -/
def listL {α : Type} (sep : Txt) (most : Nat) (part : Pr α) : Nat → List α → Pr (List α)
 | 0, acc, l, i => .ok acc l i
 | f + 1, acc, l, i => if acc.length = most then refuse e 3 l i else
  (part l i).bind fun x l i => if sgn e l = sep then listL sep most part f (acc ++ [x]) (l.drop 1) i else .ok (acc ++ [x]) l i
def listP {α : Type} (sep : Txt) (most : Nat) (part : Pr α) : Pr (List α) := fun l i => listL e sep most part (l.length + 1) [] l i
def encl {α : Type} (op cl : Txt) (part : Pr α) : Pr (List α) := fun l i =>
 (want e op l i).bind fun _ l i => if sgn e l = cl then .ok [] (l.drop 1) i else
  (listP e [44] 8 part l i).bind fun xs l i => (want e cl l i).map fun _ => xs

/-- An operator. -/
def opE (s : Txt) (x y : Ex) : Ex := .mk 5 0 s [x, y] x.at_
def joinL (operand : Pr Ex) (signs : List Txt) : Nat → Ex → Pr Ex
 | 0, x, l, i => .ok x l i
 | f + 1, x, l, i => if sgn e l ∈ signs then (operand (l.drop 1) i).bind fun y l2 i => joinL operand signs f (opE (ahd e 0 l).text x y) l2 i else .ok x l i
def joined (operand : Pr Ex) (signs : List Txt) : Pr Ex := fun l i => (operand l i).bind fun x l i => joinL e operand signs (l.length + 1) x l i
/-- A factor that begins with a sign. E: an expression within; F: a factor within. -/
def signed (E F : Pr Ex) : Pr Ex := fun l i =>
 (choose e [[45], [40], [36]] l i).bind fun s l2 i =>
  if s = [45] then (F l2 i).map fun x => if (ahd e 0 l2).kind = 2 then .mk 2 (- x.num) [] [] (ahd e 0 l).at_ else opE [45] (.mk 2 0 [] [] (ahd e 0 l).at_) x
  else if s = [40] then (E l2 i).bind fun x l i => (want e [41] l i).map fun _ => x
  else (wordQ e l2 i).bind fun w l3 i => (encl e [40] [41] E l3 i).map fun ks => .mk 6 0 w ks (ahd e 0 l).at_
def factorB (E F : Pr Ex) : Pr Ex := fun l i =>
 if (ahd e 0 l).kind = 2 then .ok (.mk 2 (ahd e 0 l).num [] [] (ahd e 0 l).at_) (l.drop 1) i
 else if (ahd e 0 l).kind = 3 then .ok (.mk 3 0 (ahd e 0 l).text [] (ahd e 0 l).at_) (l.drop 1) i
 else if (ahd e 0 l).kind = 1 then
  if (ahd e 0 l).text = [95] then .ok (.mk 4 0 [] [] (ahd e 0 l).at_) (l.drop 1) i
  else (wordQ e l i).map fun w => .mk 1 0 w [] (ahd e 0 l).at_
 else signed e E F l i
def exprB (F : Pr Ex) : Pr Ex := joined e (joined e F [[42], [47], [37]]) [[43], [45]]
/-- An expression and a factor, where d more may be begun. -/
def exD : Nat → Pr Ex × Pr Ex
 | 0 => (refuse e 4, refuse e 4)
 | d + 1 => (exprB e (exD d).2, factorB e (exD d).1 (exD d).2)

def atomP (d : Nat) : Pr Atm := fun l i => (nmQ e l i).bind fun n l2 i => (encl e [40] [41] (exD e d).1 l2 i).map fun zs => ⟨n, zs, (ahd e 0 l).at_⟩
def litP (d : Nat) : Pr Lt := fun l i =>
 if sgn e l = [33] then (atomP e d (l.drop 1) i).map fun a => ⟨2, a, [], .none, .none, (ahd e 0 l).at_⟩
 else if callN e l = true then (atomP e d l i).map fun a => ⟨1, a, [], .none, .none, (ahd e 0 l).at_⟩
 else ((exD e d).1 l i).bind fun x l2 i => (choose e [[61], [33, 61], [60], [60, 61], [62], [62, 61]] l2 i).bind fun o l3 i => ((exD e d).1 l3 i).map fun y => ⟨3, .none, o, x, y, (ahd e 0 l).at_⟩
def clauseP (d : Nat) : Pr Cls := fun l i =>
 (atomP e d l i).bind fun h l2 i =>
  if sgn e l2 = [58, 45] then (listP e [44] 16 (litP e d) (l2.drop 1) i).bind fun b l3 i => (want e [46] l3 i).map fun _ => ⟨h, b, (ahd e 0 l).at_⟩
  else (want e [46] l2 i).map fun _ => ⟨h, [], (ahd e 0 l).at_⟩
def fieldP : Pr Fld := fun l i => (wordQ e l i).bind fun n l i => (want e [58] l i).bind fun _ l i => (nmQ e l i).map fun t => ⟨n, t⟩
def ctorP : Pr Ctr := fun l i => (wordQ e l i).bind fun n l i => (encl e [123] [125] (fieldP e) l i).map fun fs => ⟨n, fs⟩
/-- Lists of which no most is named. -/
def noMost : Nat := 9223372036854775807
def typeP : Pr Typ := fun l i =>
 (wordQ e (l.drop 1) i).bind fun n l2 i => (choose e [[60, 58], [61]] l2 i).bind fun s l3 i =>
  if s = [60, 58] then (nmQ e l3 i).map fun t => ⟨n, t, [], (ahd e 0 l).at_⟩ else (listP e [124] noMost (ctorP e) l3 i).map fun cs => ⟨n, [], cs, (ahd e 0 l).at_⟩
def wIn : Txt := [105, 110, 112, 117, 116]
def wOut : Txt := [111, 117, 116, 112, 117, 116]
def flagL : Nat → Bool → Bool → Pr (Bool × Bool)
 | 0, a, b, l, i => .ok (a, b) l i
 | f + 1, a, b, l, i => if (ahd e 0 l).kind = 1 ∧ callN e l = false then
   (if (ahd e 0 l).text = wIn then flagL f true b (l.drop 1) i else if (ahd e 0 l).text = wOut then flagL f a true (l.drop 1) i else .ok (a, b) l i)
  else .ok (a, b) l i
def declP : Pr Dcl := fun l i =>
 (wordQ e (l.drop 1) i).bind fun n l2 i => (encl e [40] [41] (fieldP e) l2 i).bind fun cs l3 i => (flagL e (l3.length + 1) false false l3 i).map fun p => ⟨n, cs, p.1, p.2, (ahd e 0 l).at_⟩
def initP : Pr Ini := fun l i => (wordQ e (l.drop 1) i).bind fun n l2 i => (want e [61] l2 i).bind fun _ l3 i => (nmQ e l3 i).map fun c => ⟨n, c, (ahd e 0 l).at_⟩
/-- A component; B: its body. -/
def compB (B : Pr Pg) : Pr (Txt × List Txt × Pg × Int) := fun l i =>
 (wordQ e (l.drop 1) i).bind fun n l2 i =>
  (if sgn e l2 = [58] then listP e [44] noMost (nmQ e) (l2.drop 1) i else .ok [] l2 i).bind fun bs l3 i =>
   (want e [123] l3 i).bind fun _ l4 i => (B l4 i).bind fun p l5 i => (want e [125] l5 i).map fun _ => (n, bs, p, (ahd e 0 l).at_)
/-- One item, into a program. -/
def itemP (d : Nat) (C : Pr (Txt × List Txt × Pg × Int)) (p : Pg) : Pr Pg := fun l i =>
 if i = 96 then refuse e 3 l i
 else if sgn e l = [46, 116, 121, 112, 101] then (typeP e l (i + 1)).map fun x => .mk (p.types ++ [x]) p.decls p.comps p.inits p.clauses
 else if sgn e l = [46, 100, 101, 99, 108] then (declP e l (i + 1)).map fun x => .mk p.types (p.decls ++ [x]) p.comps p.inits p.clauses
 else if sgn e l = [46, 99, 111, 109, 112] then (C l (i + 1)).map fun x => .mk p.types p.decls (p.comps ++ [x]) p.inits p.clauses
 else if sgn e l = [46, 105, 110, 105, 116] then (initP e l (i + 1)).map fun x => .mk p.types p.decls p.comps (p.inits ++ [x]) p.clauses
 else (clauseP e d l (i + 1)).map fun x => .mk p.types p.decls p.comps p.inits (p.clauses ++ [x])
/-- Is the end there: of all (top), or of a component? -/
def isEnd (top : Bool) (l : List Tok) : Bool := if top then decide ((ahd e 0 l).kind = 0) && decide ((ahd e 0 l).text = []) else decide ((ahd e 0 l).kind = 4) && decide ((ahd e 0 l).text = [125])
def progL (top : Bool) (d : Nat) (C : Pr (Txt × List Txt × Pg × Int)) : Nat → Pg → Pr Pg
 | 0, p, l, i => .ok p l i
 | f + 1, p, l, i => if isEnd e top l = true then .ok p l i else (itemP e d C p l i).bind fun p l i => progL top d C f p l i
/-- Items up to an end, where d more may be begun. -/
def progD : Nat → Bool → Pr Pg
 | 0, top => fun l i => progL e top 0 (refuse e 4) (l.length + 1) .none l i
 | d + 1, top => fun l i => progL e top (d + 1) (compB e (progD d false)) (l.length + 1) .none l i
end
/-- A program's reading. -/
def synP (s : Txt) (toks : List Tok) : Rs Pg := progD s.length 32 true toks 0
end
end Go.Proofs.YtccehgfecaamoaaGreatDoor
