/- Walk of Tokens: its rounds. A program's tokens as a program: the plain reading. syn's reader: what it holds; the tokens ahead of it. -/
import Derived.Test.YtccehgfecaamoaaGreatDoorQb04
import Derived.Deep.WholeRow
import Derived.Test.YtccehgfecaamoaaGreatDoorQb01
import Derived.WalkLawsBesides
set_option maxRecDepth 100000
set_option maxHeartbeats 32000000
namespace Go.Proofs.YtccehgfecaamoaaGreatDoor
section
open Go.RowKit
def tkStore (p v : Value) : Sem Unit := Instr.storeAt 83 p v
theorem Qgy (p v : Value) : Instr.storeAt 83 p v = tkStore p v := rfl
def flStore (p v : Value) : Sem Unit := Instr.storeAt 31 p v
theorem Qjz (p v : Value) : Instr.storeAt 31 p v = flStore p v := rfl
def tkLoad (x : Value) : Sem Value := Instr.loadAt 83 x
theorem Qik (x : Value) : Instr.loadAt 83 x = tkLoad x := rfl
def flLoad (x : Value) : Sem Value := Instr.loadAt 31 x
theorem Qmx (x : Value) : Instr.loadAt 31 x = flLoad x := rfl
theorem Qyz : (Tryz.prog.info? 83).map (·.size) = some 4 := by kernel_rfl
theorem Qpl : (Tryz.prog.info? 31).map (·.size) = some 2 := by kernel_rfl

theorem fl_new (w : World) (a b : Int) : (flStore (.pointer (some ⟨w.heap.size, 0, none⟩)) (.agg #[.int .i64 a, .int .i64 b])).run Tryz.prog (w.alloc (.cells #[.int .i64 0, .int .i64 0] 31)) = .ok () (w.alloc (.cells #[.int .i64 a, .int .i64 b] 31)) :=
 run_storeAt_new w 31 _ _ Qpl rfl (by simp [Value.oneCell'])
theorem Qlc {w : World} {b : Nat} {p0 p1 : Value} (h : w.heap[b]? = some (.cells #[p0, p1] 31)) (q0 q1 : Int) :
  (flStore (.pointer (some ⟨b, 0, none⟩)) (.agg #[.int .i64 q0, .int .i64 q1])).run Tryz.prog w = .ok () ((w.setCell ⟨b, 0, none⟩ (.int .i64 q0)).setCell ⟨b, 1, none⟩ (.int .i64 q1)) := by
 refine run_storeAt_mid w b 0 31 #[.int .i64 q0, .int .i64 q1] (fun j hj => ⟨?_, Lib.frozen_of_heap h _⟩) Qpl (by simp [Value.oneCell'])
 have hj : j < 2 := hj
 rw [Lib.cell_of_heap h]
 rcases (by omega : j = 0 ∨ j = 1) with rfl | rfl <;> rfl
theorem Jbr {w : World} {b : Nat} {p0 p1 p2 p3 : Value} (h : w.heap[b]? = some (.cells #[p0, p1, p2, p3] 83)) (k n a : Int) (t : ByteArray) :
  (tkStore (.pointer (some ⟨b, 0, none⟩)) (.agg #[.int .i64 k, .string t, .int .i64 n, .int .i64 a])).run Tryz.prog w =
   .ok () ((((w.setCell ⟨b, 0, none⟩ (.int .i64 k)).setCell ⟨b, 1, none⟩ (.string t)).setCell ⟨b, 2, none⟩ (.int .i64 n)).setCell ⟨b, 3, none⟩ (.int .i64 a)) := by
 refine run_storeAt_mid w b 0 83 #[.int .i64 k, .string t, .int .i64 n, .int .i64 a] (fun j hj => ⟨?_, Lib.frozen_of_heap h _⟩) Qyz (by simp [Value.oneCell'])
 have hj : j < 4 := hj
 rw [Lib.cell_of_heap h]
 rcases (by omega : j = 0 ∨ j = 1 ∨ j = 2 ∨ j = 3) with rfl | rfl | rfl | rfl <;> rfl
theorem Qwd {w : World} {b : Nat} {q0 q1 : Value} (h : w.heap[b]? = some (.cells #[q0, q1] 31)) :
  (flLoad (.pointer (some ⟨b, 0, none⟩))).run Tryz.prog w = .ok (.agg #[q0, q1]) w := by
 refine run_loadAt_mid w b 0 31 [q0, q1] _ (fun q v hq => ?_) Tryz.underlying31 rfl Qpl
 rw [Lib.cell_of_heap h, Nat.zero_add, ← hq]
 simp
theorem tk_load {w : World} {b : Nat} {q0 q1 q2 q3 : Value} (h : w.heap[b]? = some (.cells #[q0, q1, q2, q3] 83)) :
  (tkLoad (.pointer (some ⟨b, 0, none⟩))).run Tryz.prog w = .ok (.agg #[q0, q1, q2, q3]) w := by
 refine run_loadAt_mid w b 0 83 [q0, q1, q2, q3] _ (fun q v hq => ?_) Tryz.underlying83 rfl Qyz
 rw [Lib.cell_of_heap h, Nat.zero_add, ← hq]
 simp
theorem six_tok (w : World) (b c : Nat) (q0 q1 q2 q3 q4 q5 p0 p1 p2 p3 : Value) (hne : b ≠ c) (h : w.heap[b]? = some (.cells #[p0, p1, p2, p3] 83)) : (six w b c q0 q1 q2 q3 q4 q5).heap[b]? = some (.cells #[q0, q1, q2, q3] 83) := by
 rw [heap_setCell_other _ _ _ _ hne, heap_setCell_other _ _ _ _ hne]
 exact heap_setCell_same _ b 3 _ _ q3 (heap_setCell_same _ b 2 _ _ q2 (heap_setCell_same _ b 1 _ _ q1 (heap_setCell_same _ b 0 _ _ q0 h)))

structure Wrote (w wr w2 w4 : World) (fb : Nat) (T : TV) : Prop where
 eq : w4 = six w2 wr.heap.size fb (.int .i64 T.kd) (.string T.tx) (.int .i64 T.nm) (.int .i64 T.at_) (.int .i64 T.why) (.int .i64 T.fa)
 ft : w4.heap[wr.heap.size]? = some (.cells #[.int .i64 T.kd, .string T.tx, .int .i64 T.nm, .int .i64 T.at_] 83)
 ff : w4.heap[fb]? = some (.cells #[.int .i64 T.why, .int .i64 T.fa] 31)
 fr : w4.heap[w.heap.size]? = some fltZ
 bel : Below w.heap.size w w4
theorem wrote {s : ByteArray} {w wr w2 : World} {fb : Nat} {v : Value} {toks : List Tok} {a : Int} (h : TkInv s w fb v wr toks a 0 0) (b2 : Below (wr.heap.size + 1) (wr.alloc tokZ) w2) (T : TV) :
  ∃ w3 w4, (tkStore (.pointer (some ⟨wr.heap.size, 0, none⟩)) (.agg #[.int .i64 T.kd, .string T.tx, .int .i64 T.nm, .int .i64 T.at_])).run Tryz.prog w2 = .ok () w3 ∧
   (flStore (.pointer (some ⟨fb, 0, none⟩)) (.agg #[.int .i64 T.why, .int .i64 T.fa])).run Tryz.prog w3 = .ok () w4 ∧ Wrote w wr w2 w4 fb T := by
 have hsz := h.bel.size
 have hfb := h.fb1
 have hfl : fb < wr.heap.size := (Array.getElem?_eq_some_iff.1 h.fbx).1
 have bxT : w2.heap[wr.heap.size]? = some tokZ := by rw [b2.block _ (by omega)]; exact heap_alloc_new wr _
 have bxF : w2.heap[fb]? = some (.cells #[.int .i64 0, .int .i64 0] 31) := by rw [b2.block _ (by omega), Lib.alloc_old wr _ _ hfl]; exact h.fbx
 have bxR : w2.heap[w.heap.size]? = some fltZ := by rw [b2.block _ (by omega), Lib.alloc_old wr _ _ (by omega)]; exact h.rb
 have n1 : fb ≠ wr.heap.size := by omega
 have e3 : ((((w2.setCell ⟨wr.heap.size, 0, none⟩ (.int .i64 T.kd)).setCell ⟨wr.heap.size, 1, none⟩ (.string T.tx)).setCell ⟨wr.heap.size, 2, none⟩ (.int .i64 T.nm)).setCell ⟨wr.heap.size, 3, none⟩ (.int .i64 T.at_)).heap[fb]? = some (.cells #[.int .i64 0, .int .i64 0] 31) := by
  rw [heap_setCell_other _ _ _ _ n1, heap_setCell_other _ _ _ _ n1, heap_setCell_other _ _ _ _ n1, heap_setCell_other _ _ _ _ n1, bxF]
 have bel2 : Below w.heap.size w w2 := (h.bel.alloc (by omega) _).trans (b2.mono (by omega))
 exact ⟨_, _, Jbr bxT _ _ _ _, Qlc e3 _ _, ⟨rfl, six_tok _ _ _ _ _ _ _ _ _ _ _ _ _ n1.symm bxT, Qpk _ _ _ _ _ _ _ _ _ _ _ n1 bxF,
  by rw [Qiy _ _ _ _ _ _ _ _ _ _ (by omega) (by omega)]; exact bxR, Qar bel2 (by omega) (by omega) _ _ _ _ _ _⟩⟩
theorem last {w wr : World} (hb : Below w.heap.size w wr) (hr : wr.heap[w.heap.size]? = some fltZ) (p q : Int) :
  ∃ w9, (flStore (.pointer (some ⟨w.heap.size, 0, none⟩)) (.agg #[.int .i64 p, .int .i64 q])).run Tryz.prog wr = .ok () w9 ∧ w9.cell? ⟨w.heap.size, 0, none⟩ = some (.int .i64 p) ∧ w9.cell? ⟨w.heap.size, 1, none⟩ = some (.int .i64 q) ∧
   Below w.heap.size w w9 ∧ (∀ k, w.heap.size + 1 ≤ k → w9.heap[k]? = wr.heap[k]?) := by
 have h9 := Qpq wr w.heap.size (.int .i64 p) (.int .i64 q) _ _ hr
 refine ⟨_, Qlc hr p q, by rw [Lib.cell_of_heap h9]; rfl, by rw [Lib.cell_of_heap h9]; rfl, (hb.setCell (p := ⟨w.heap.size, 0, none⟩) (Nat.le_refl _) _).setCell (p := ⟨w.heap.size, 1, none⟩) (Nat.le_refl _) _, fun k hk => ?_⟩
 rw [heap_setCell_other _ _ _ _ (by show k ≠ w.heap.size; omega), heap_setCell_other _ _ _ _ (by show k ≠ w.heap.size; omega)]

attribute [local go_sem ↓] Qgy Qjz Qik Qmx
theorem Qua (s : ByteArray) (hs : s.size ≤ 65536) (w : World) (hE : Env w) :
  Calls Tryz.prog 11 #[.string s] w fun e w' => TokAns (lexP s.data.toList) w w' e := by
 have H := hide (show lexP s.data.toList = scan 0 s.data.toList by unfold lexP; rw [← Qca, if_neg (by omega)])
 have hb0 : Below w.heap.size w (w.alloc fltZ) := (Below.refl w.heap.size w).alloc (Nat.le_refl _) _
 obtain ⟨ml, hml⟩ := (hE.later hb0).ml
 have HG := hide (Qig s 0 ml (Nat.zero_le _) hs (w.alloc fltZ) hml)
 have HE := hide hE
 clear hml hE hb0
 go_enter Tryz.func11, Tryz.ntmps11
 go_wp2_with fail
 refine (Qa HG).mono ?_
 rintro e w1 ⟨hge, b1⟩
 obtain ⟨a, why, fa, rfl, hst⟩ := Qwj hge
 have HT := hide (Jbq (by simpa using b1) hst)
 have hS0 := fl_new w1 why fa
 obtain ⟨wr0, hwr0⟩ : ∃ wr0, w1.alloc (.cells #[.int .i64 why, .int .i64 fa] 31) = wr0 := ⟨_, rfl⟩
 rw [hwr0] at HT hS0
 clear hge b1 hst HG hwr0
 go_wp2_with fail
 obtain ⟨fb, hfb2⟩ : ∃ fb, w1.heap.size = fb := ⟨_, rfl⟩
 rw [hfb2] at HT
 rw [hfb2]
 clear hS0 hfb2
 go_loopw [4, 5] (fun v i wr => TkRel s w fb v i wr) (fun _ i wr => tkMu s.size fb i wr)
 case atStart => exact ⟨[], a, why, fa, rfl, HT⟩
 clear HT
 obtain ⟨toks, a, why, fa, rfl, HH⟩ := hrel
 have c0 : wr.cell? ⟨fb, 0, none⟩ = some (.int .i64 why) := by rw [Lib.cell_of_heap (Qa HH).fbx]; rfl
 rcases (Qa HH).st with ⟨rfl, rfl, m, rfl, hms, htl, hgap, hsc⟩ | ⟨rfl, rfl, m, rfl, hsc⟩
 ·
  by_cases hlt : m < s.size
  ·
   have hsz := (Qa HH).bel.size
   have hEr := (Qa HE).later (Qa HH).bel
   have HTK := hide (Qzc s m hlt hs (wr.alloc tokZ) (hEr.later ((Below.refl wr.heap.size wr).alloc (Nat.le_refl _) _)))
   have HHH := HH
   clear hEr HH
   go_wp2_with fail
   refine (Qa HTK).mono ?_
   rintro e w2 ⟨rfl, b2⟩
   have b2' : Below (wr.heap.size + 1) (wr.alloc tokZ) w2 := by simpa using b2
   clear b2 HTK c0
   cases ht : tokAt (s.data.toList.drop m) with
   | bad why o =>
    have hwz2 : (why != 0) = true := bne_iff_ne.2 (Qzb ht).1
    have HSC := hide (show scan 0 s.data.toList = .bad why (m + o) by
     rw [hsc]; exact Quo _ _ _ _ (Qgj (by rw [Qb s m hlt]; simp) hgap ht))
    obtain ⟨w3, w4, hS1, hS2, hW⟩ := wrote (Qa HHH) b2' (resT m (.bad why o))
    have c0 : w4.cell? ⟨fb, 0, none⟩ = some (.int .i64 why) := by rw [Lib.cell_of_heap hW.ff]; rfl
    have hL := Qwd (w := w4.drew) hW.ff
    obtain ⟨w9, hS9, z0, z1, bw, _⟩ := last (wr := w4.drew) hW.bel.drew hW.fr why ((m + o : Nat) : Int)
    have e : resT m (.bad why o) = ⟨0, ⟨#[]⟩, 0, 0, 0, why, ((m + o : Nat) : Int)⟩ := rfl
    rw [e] at hS1 hS2 hL ⊢
    obtain ⟨q, hq⟩ : ∃ q : Int, ((m + o : Nat) : Int) = q := ⟨_, rfl⟩
    rw [hq] at hS1 hS2 hS9 z1 hL ⊢
    have HQ := hide hq
    clear hsc hgap ht HHH hW b2' e hq
    go_wp2_with fail
    go_region
    all_goals
     go_wp2_with fail
     refine bodyPost_ret (v := .tuple #[.slice none 0 0, .agg #[.int .i64 why, .int .i64 q]]) (by simp [results, Tryz.results11, go_sem, z0, z1]) rfl ?_
     rw [Qa H, Qa HSC, ← Qa HQ]
     exact ⟨_, rfl, World.ownsRow_nil _ _ _ _, bw⟩
   | tok kd tx nm n =>
    have hp := Qg ht
    rw [Qcn] at hp
    obtain ⟨i0, hi, hz0, hz1, hz2⟩ := Qox
    have HI := hide (show Tryz.prog.info? 83 = some i0 ∧ i0.zero = some (.agg #[.int .i64 0, .string ⟨#[]⟩, .int .i64 0, .int .i64 0]) ∧ i0.size = 4 ∧ i0.bytes = 40 from ⟨hi, hz0, hz1, hz2⟩)
    have HOW := hide (own_six (Qa HHH).own (Qa HHH).fbx b2' (.int .i64 kd) (.string ⟨tx.toArray⟩) (.int .i64 nm) (.int .i64 (m : Int)) (.int .i64 0) (.int .i64 0))
    have e : resT m (.tok kd tx nm n) = ⟨kd, ⟨tx.toArray⟩, nm, (m : Int), (m : Int) + (n : Int), 0, 0⟩ := by simp [resT]
    rw [e]
    obtain ⟨w3, w4, hS1, hS2, hW⟩ := wrote (Qa HHH) b2' ⟨kd, ⟨tx.toArray⟩, nm, (m : Int), (m : Int) + (n : Int), 0, 0⟩
    have c0 : w4.cell? ⟨fb, 0, none⟩ = some (.int .i64 0) := by rw [Lib.cell_of_heap hW.ff]; rfl
    have hL := tk_load hW.ft
    have hW4 := hW.bel.size
    have HEQ := hide hW.eq
    rw [← hW.eq] at HOW
    have HT := hide ht
    have HSC := hide hsc
    have HGP := hide hgap
    have HB2 := hide b2'
    have HBL := hide hW.bel
    clear hsc hgap ht hi hz0 hz1 hz2 b2' e hW
    go_wp2_with (at_builtin; refine wpList_append_own _ rfl _ _ 43 rfl (w.heap.size + 1) 83 i0 (.agg #[.int .i64 0, .string ⟨#[]⟩, .int .i64 0, .int .i64 0]) 4 40 Tryz.underlying43 (Qa HI).1 (Qa HI).2.1 (Qa HI).2.2.1 (Qa HI).2.2.2 rfl (by decide) _ _ _ rfl ((Qa HOW).alloc _) ⟨_, 0, none⟩ 1 1 [.int .i64 kd, .string ⟨tx.toArray⟩, .int .i64 nm, .int .i64 (m : Int)] rfl rfl (Jbs _ _ _ _ _) (tok_one _ _ _ _) (by unfold maxLen; omega) (by omega) (by simp; omega) ?_; intro v' w5 hown' hgrow _)
    have hgrow' := hgrow
    rw [Qa HEQ] at hgrow'
    have HGR := hide hgrow'
    have HON := hide hown'
    obtain ⟨bel5, f5⟩ := tk_mid (Qa HHH) (Qa HB2) hgrow'
    obtain ⟨ml, hml⟩ := ((Qa HE).later bel5).ml
    clear hgrow hgrow' hown' HOW HEQ HBL hL hS1 hS2 c0
    refine (Qtc s (m + n) _ ml (by omega) (by omega) hs _ hml).mono ?_
    rintro e w6 ⟨hge, b6⟩
    obtain ⟨a', why', fa', rfl, hst⟩ := Qwj hge
    have f6 : w6.heap[fb]? = some (.cells #[.int .i64 0, .int .i64 0] 31) := by rw [b6.block _ (Array.getElem?_eq_some_iff.1 f5).1]; exact f5
    have hS := Qlc f6 why' fa'
    have hN := tk_next (Qa HHH) hp.1 htl (Qa HGP) (Qa HT) (Qa HSC) (Qa HB2) (Qa HON) (Qa HGR) b6 hst
    have hc := Qpq w6 fb (.int .i64 why') (.int .i64 fa') _ _ f6
    obtain ⟨w7, hw7⟩ : ∃ w7, (w6.setCell ⟨fb, 0, none⟩ (.int .i64 why')).setCell ⟨fb, 1, none⟩ (.int .i64 fa') = w7 := ⟨_, rfl⟩
    rw [hw7] at hS hN hc
    have hmu : tkMu s.size fb (.int .i64 a') w7 < tkMu s.size fb (.int .i64 (m : Int)) wr := by
     unfold tkMu
     have e1 : w7.cell? ⟨fb, 0, none⟩ = some (.int .i64 why') := by rw [Lib.cell_of_heap hc]; rfl
     have e2 : wr.cell? ⟨fb, 0, none⟩ = some (.int .i64 0) := by rw [Lib.cell_of_heap (Qa HHH).fbx]; rfl
     rw [e1, e2]
     rw [show fltOf (some (.int .i64 why')) = why' from rfl, show fltOf (some (.int .i64 0)) = 0 from rfl, if_pos rfl]
     rw [show intOf (.int .i64 a') = a' from rfl, show intOf (.int .i64 (m : Int)) = (m : Int) from rfl]
     by_cases h0 : why' = 0
     ·
      rw [if_pos h0]
      have := hN.2.1 h0
      omega
     · rw [if_neg h0]; omega
    have HR := hide (show TkRel s w fb v' (.int .i64 a') w7 from ⟨_, _, _, _, rfl, hide hN.1⟩)
    have HMU := hide hmu
    clear hge b6 hst f5 f6 hN hc hw7 hmu bel5 hml HHH HON HGR
    go_wp2_with fail
    go_roundw
    case rel => exact Qa HR
    case measure => exact Qa HMU
  have HSC := hide (show scan 0 s.data.toList = .ok toks by rw [hsc, Qdn s m (by omega), Qcs]; simp [Out.app])
  have HO := hide (Qa HH).own
  obtain ⟨w9, hS9, z0, z1, bw, HO2⟩ := last (Qa HH).bel (Qa HH).rb 0 0
  have HO3 := hide (out_own (Qa HO) HO2)
  clear hsc hgap HH HO HO2
  go_wp2_with fail
  refine bodyPost_ret (v := .tuple #[u4, .agg #[.int .i64 0, .int .i64 0]]) (by simp [results, Tryz.results11, go_sem, z0, z1]) rfl ?_
  rw [Qa H, Qa HSC]
  exact ⟨u4, rfl, Qa HO3, bw⟩
 have HSC := hide hsc
 obtain ⟨w9, hS9, z0, z1, bw, _⟩ := last (wr := wr.drew) (Qa HH).bel.drew (Qa HH).rb 7 (m : Int)
 have hL := Qwd (w := wr.drew) (Qa HH).fbx
 clear hsc HH
 go_wp2_with fail
 go_region
 all_goals
  go_wp2_with fail
  refine bodyPost_ret (v := .tuple #[.slice none 0 0, .agg #[.int .i64 7, .int .i64 (m : Int)]]) (by simp [results, Tryz.results11, go_sem, z0, z1]) rfl ?_
  rw [Qa H, Qa HSC]
  exact ⟨_, rfl, World.ownsRow_nil _ _ _ _, bw⟩
end
section
/-- An expression. -/
inductive Ex where
 | mk (kind n : Int) (s : Txt) (kids : List Ex) (at_ : Int)
namespace Ex
def kind : Ex → Int | mk k _ _ _ _ => k
def num : Ex → Int | mk _ n _ _ _ => n
def txt : Ex → Txt | mk _ _ s _ _ => s
def kids : Ex → List Ex | mk _ _ _ l _ => l
def at_ : Ex → Int | mk _ _ _ _ a => a
/-- None. -/
def none : Ex := mk 0 0 [] [] 0
end Ex
structure Fld where
 name : Txt
 type : Txt
structure Ctr where
 name : Txt
 fields : List Fld
structure Typ where
 name : Txt
 sub : Txt
 ctors : List Ctr
 at_ : Int
structure Dcl where
 name : Txt
 cols : List Fld
 input : Bool
 output : Bool
 at_ : Int
structure Ini where
 name : Txt
 comp : Txt
 at_ : Int
structure Atm where
 rel : Txt
 args : List Ex
 at_ : Int
def Atm.none : Atm := ⟨[], [], 0⟩
structure Lt where
 kind : Int
 atom : Atm
 op : Txt
 l : Ex
 r : Ex
 at_ : Int
structure Cls where
 head : Atm
 body : List Lt
 at_ : Int
/-- A program; a component is its name, its bases, its body, its place. -/
inductive Pg where
 | mk (types : List Typ) (decls : List Dcl) (comps : List (Txt × List Txt × Pg × Int)) (inits : List Ini) (clauses : List Cls)
namespace Pg
def types : Pg → List Typ | mk a _ _ _ _ => a
def decls : Pg → List Dcl | mk _ a _ _ _ => a
def comps : Pg → List (Txt × List Txt × Pg × Int) | mk _ _ a _ _ => a
def inits : Pg → List Ini | mk _ _ _ a _ => a
def clauses : Pg → List Cls | mk _ _ _ _ a => a
def none : Pg := mk [] [] [] [] []
end Pg

/-- What a reading answers: a fault, with the tokens that are left there; or what was read, the tokens that are left, and how many items have begun. -/
inductive Rs (α : Type) where
 | bad (why at_ : Int) (left : List Tok)
 | ok (a : α) (left : List Tok) (items : Nat)
abbrev Pr (α : Type) := List Tok → Nat → Rs α
def Rs.bind {α β : Type} : Rs α → (α → Pr β) → Rs β
 | .bad w a l, _ => .bad w a l
 | .ok x l i, f => f x l i
def Rs.map {α β : Type} (f : α → β) : Rs α → Rs β
 | .bad w a l => .bad w a l
 | .ok x l i => .ok (f x) l i

section

variable (e : Nat)
/-- The n-th token from here; behind the last one stands one of no kind. -/
def ahd (n : Nat) (l : List Tok) : Tok := l.getD n ⟨0, [], 0, e⟩
def refuse {α : Type} (why : Int) : Pr α := fun l _ => .bad why (ahd e 0 l).at_ l
/-- The sign that is next; no text, if something else is. -/
def sgn (l : List Tok) : Txt := if (ahd e 0 l).kind = 4 then (ahd e 0 l).text else []
def want (s : Txt) : Pr Unit := fun l i => if sgn e l = s then .ok () (l.drop 1) i else refuse e 10 l i
def choose (ss : List Txt) : Pr Txt := fun l i => if sgn e l ∈ ss then .ok (ahd e 0 l).text (l.drop 1) i else refuse e 10 l i
def nmQ : Pr Txt := fun l i => if (ahd e 0 l).kind = 1 then .ok (ahd e 0 l).text (l.drop 1) i else refuse e 10 l i
/-- May a token name something new? -/
def isW1 (t : Tok) : Bool := decide (t.kind = 1) && decide (t.text ≠ [95]) && !t.text.contains 46
def wordQ : Pr Txt := fun l i => if isW1 (ahd e 0 l) = true then .ok (ahd e 0 l).text (l.drop 1) i else refuse e 10 l i
def callN (l : List Tok) : Bool := decide ((ahd e 0 l).kind = 1) && decide ((ahd e 1 l).kind = 4) && decide ((ahd e 1 l).text = [40])
/-- Parts with a sign between them, at most some. -/
def listL {α : Type} (sep : Txt) (most : Nat) (part : Pr α) : Nat → List α → Pr (List α)
 | 0, acc, l, i => .ok acc l i
 | f + 1, acc, l, i => if acc.length = most then refuse e 3 l i else
  (part l i).bind fun x l i => if sgn e l = sep then listL sep most part f (acc ++ [x]) (l.drop 1) i else .ok (acc ++ [x]) l i
def listP {α : Type} (sep : Txt) (most : Nat) (part : Pr α) : Pr (List α) := fun l i => listL e sep most part (l.length + 1) [] l i
def encl {α : Type} (op cl : Txt) (part : Pr α) : Pr (List α) := fun l i =>
 (want e op l i).bind fun _ l i => if sgn e l = cl then .ok [] (l.drop 1) i else
  (listP e [44] 8 part l i).bind fun xs l i => (want e cl l i).map fun _ => xs

/-- An operator. -/
def opE (s : Txt) (x y : Ex) : Ex := .mk 5 0 s [x, y] x.at_
def joinL (operand : Pr Ex) (signs : List Txt) : Nat → Ex → Pr Ex
 | 0, x, l, i => .ok x l i
 | f + 1, x, l, i => if sgn e l ∈ signs then (operand (l.drop 1) i).bind fun y l2 i => joinL operand signs f (opE (ahd e 0 l).text x y) l2 i else .ok x l i
def joined (operand : Pr Ex) (signs : List Txt) : Pr Ex := fun l i => (operand l i).bind fun x l i => joinL e operand signs (l.length + 1) x l i
/-- A factor that begins with a sign. E: an expression within; F: a factor within. -/
def signed (E F : Pr Ex) : Pr Ex := fun l i =>
 (choose e [[45], [40], [36]] l i).bind fun s l2 i =>
  if s = [45] then (F l2 i).map fun x => if (ahd e 0 l2).kind = 2 then .mk 2 (- x.num) [] [] (ahd e 0 l).at_ else opE [45] (.mk 2 0 [] [] (ahd e 0 l).at_) x
  else if s = [40] then (E l2 i).bind fun x l i => (want e [41] l i).map fun _ => x
  else (wordQ e l2 i).bind fun w l3 i => (encl e [40] [41] E l3 i).map fun ks => .mk 6 0 w ks (ahd e 0 l).at_
def factorB (E F : Pr Ex) : Pr Ex := fun l i =>
 if (ahd e 0 l).kind = 2 then .ok (.mk 2 (ahd e 0 l).num [] [] (ahd e 0 l).at_) (l.drop 1) i
 else if (ahd e 0 l).kind = 3 then .ok (.mk 3 0 (ahd e 0 l).text [] (ahd e 0 l).at_) (l.drop 1) i
 else if (ahd e 0 l).kind = 1 then
  if (ahd e 0 l).text = [95] then .ok (.mk 4 0 [] [] (ahd e 0 l).at_) (l.drop 1) i
  else (wordQ e l i).map fun w => .mk 1 0 w [] (ahd e 0 l).at_
 else signed e E F l i
def exprB (F : Pr Ex) : Pr Ex := joined e (joined e F [[42], [47], [37]]) [[43], [45]]
/-- An expression and a factor, where d more may be begun. -/
def exD : Nat → Pr Ex × Pr Ex
 | 0 => (refuse e 4, refuse e 4)
 | d + 1 => (exprB e (exD d).2, factorB e (exD d).1 (exD d).2)

def atomP (d : Nat) : Pr Atm := fun l i => (nmQ e l i).bind fun n l2 i => (encl e [40] [41] (exD e d).1 l2 i).map fun zs => ⟨n, zs, (ahd e 0 l).at_⟩
def litP (d : Nat) : Pr Lt := fun l i =>
 if sgn e l = [33] then (atomP e d (l.drop 1) i).map fun a => ⟨2, a, [], .none, .none, (ahd e 0 l).at_⟩
 else if callN e l = true then (atomP e d l i).map fun a => ⟨1, a, [], .none, .none, (ahd e 0 l).at_⟩
 else ((exD e d).1 l i).bind fun x l2 i => (choose e [[61], [33, 61], [60], [60, 61], [62], [62, 61]] l2 i).bind fun o l3 i => ((exD e d).1 l3 i).map fun y => ⟨3, .none, o, x, y, (ahd e 0 l).at_⟩
def clauseP (d : Nat) : Pr Cls := fun l i =>
 (atomP e d l i).bind fun h l2 i =>
  if sgn e l2 = [58, 45] then (listP e [44] 16 (litP e d) (l2.drop 1) i).bind fun b l3 i => (want e [46] l3 i).map fun _ => ⟨h, b, (ahd e 0 l).at_⟩
  else (want e [46] l2 i).map fun _ => ⟨h, [], (ahd e 0 l).at_⟩
def fieldP : Pr Fld := fun l i => (wordQ e l i).bind fun n l i => (want e [58] l i).bind fun _ l i => (nmQ e l i).map fun t => ⟨n, t⟩
def ctorP : Pr Ctr := fun l i => (wordQ e l i).bind fun n l i => (encl e [123] [125] (fieldP e) l i).map fun fs => ⟨n, fs⟩
/-- Lists of which no most is named. -/
def noMost : Nat := 9223372036854775807
def typeP : Pr Typ := fun l i =>
 (wordQ e (l.drop 1) i).bind fun n l2 i => (choose e [[60, 58], [61]] l2 i).bind fun s l3 i =>
  if s = [60, 58] then (nmQ e l3 i).map fun t => ⟨n, t, [], (ahd e 0 l).at_⟩ else (listP e [124] noMost (ctorP e) l3 i).map fun cs => ⟨n, [], cs, (ahd e 0 l).at_⟩
def wIn : Txt := [105, 110, 112, 117, 116]
def wOut : Txt := [111, 117, 116, 112, 117, 116]
def flagL : Nat → Bool → Bool → Pr (Bool × Bool)
 | 0, a, b, l, i => .ok (a, b) l i
 | f + 1, a, b, l, i => if (ahd e 0 l).kind = 1 ∧ callN e l = false then
   (if (ahd e 0 l).text = wIn then flagL f true b (l.drop 1) i else if (ahd e 0 l).text = wOut then flagL f a true (l.drop 1) i else .ok (a, b) l i)
  else .ok (a, b) l i
def declP : Pr Dcl := fun l i =>
 (wordQ e (l.drop 1) i).bind fun n l2 i => (encl e [40] [41] (fieldP e) l2 i).bind fun cs l3 i => (flagL e (l3.length + 1) false false l3 i).map fun p => ⟨n, cs, p.1, p.2, (ahd e 0 l).at_⟩
def initP : Pr Ini := fun l i => (wordQ e (l.drop 1) i).bind fun n l2 i => (want e [61] l2 i).bind fun _ l3 i => (nmQ e l3 i).map fun c => ⟨n, c, (ahd e 0 l).at_⟩
/-- A component; B: its body. -/
def compB (B : Pr Pg) : Pr (Txt × List Txt × Pg × Int) := fun l i =>
 (wordQ e (l.drop 1) i).bind fun n l2 i =>
  (if sgn e l2 = [58] then listP e [44] noMost (nmQ e) (l2.drop 1) i else .ok [] l2 i).bind fun bs l3 i =>
   (want e [123] l3 i).bind fun _ l4 i => (B l4 i).bind fun p l5 i => (want e [125] l5 i).map fun _ => (n, bs, p, (ahd e 0 l).at_)
/-- One item, into a program. -/
def itemP (d : Nat) (C : Pr (Txt × List Txt × Pg × Int)) (p : Pg) : Pr Pg := fun l i =>
 if i = 96 then refuse e 3 l i
 else if sgn e l = [46, 116, 121, 112, 101] then (typeP e l (i + 1)).map fun x => .mk (p.types ++ [x]) p.decls p.comps p.inits p.clauses
 else if sgn e l = [46, 100, 101, 99, 108] then (declP e l (i + 1)).map fun x => .mk p.types (p.decls ++ [x]) p.comps p.inits p.clauses
 else if sgn e l = [46, 99, 111, 109, 112] then (C l (i + 1)).map fun x => .mk p.types p.decls (p.comps ++ [x]) p.inits p.clauses
 else if sgn e l = [46, 105, 110, 105, 116] then (initP e l (i + 1)).map fun x => .mk p.types p.decls p.comps (p.inits ++ [x]) p.clauses
 else (clauseP e d l (i + 1)).map fun x => .mk p.types p.decls p.comps p.inits (p.clauses ++ [x])
/-- Is the end there: of all (top), or of a component? -/
def isEnd (top : Bool) (l : List Tok) : Bool := if top then decide ((ahd e 0 l).kind = 0) && decide ((ahd e 0 l).text = []) else decide ((ahd e 0 l).kind = 4) && decide ((ahd e 0 l).text = [125])
def progL (top : Bool) (d : Nat) (C : Pr (Txt × List Txt × Pg × Int)) : Nat → Pg → Pr Pg
 | 0, p, l, i => .ok p l i
 | f + 1, p, l, i => if isEnd e top l = true then .ok p l i else (itemP e d C p l i).bind fun p l i => progL top d C f p l i
/-- Items up to an end, where d more may be begun. -/
def progD : Nat → Bool → Pr Pg
 | 0, top => fun l i => progL e top 0 (refuse e 4) (l.length + 1) .none l i
 | d + 1, top => fun l i => progL e top (d + 1) (compB e (progD d false)) (l.length + 1) .none l i
end
/-- A program's reading. -/
def synP (s : Txt) (toks : List Tok) : Rs Pg := progD s.length 32 true toks 0
end
section
open Go.RowKit
theorem bnw {w w' : World} {o : Obj} (h : w' = w.alloc o) : Below w.heap.size w w' := by rw [h]; exact (Below.refl _ w).alloc (Nat.le_refl _) _
theorem nnw {w w' : World} {cs : Array Value} {T : TypeId} (h : w' = w.alloc (.cells cs T)) : w'.heap[w.heap.size]? = some (.cells cs T (0, 0)) := by rw [h]; exact heap_alloc_new w _
structure Kp (rb : Nat) (w w' : World) : Prop where
 os : w'.os = w.os
 tape : w'.tape = w.tape
 output : w'.output = w.output
 size : w.heap.size ≤ w'.heap.size
 block : ∀ k, k < w.heap.size → k ≠ rb → w'.heap[k]? = w.heap[k]?
theorem Kp.refl (rb : Nat) (w : World) : Kp rb w w := ⟨rfl, rfl, rfl, Nat.le_refl _, fun _ _ _ => rfl⟩
theorem Kp.trans {rb : Nat} {a b c : World} (h : Kp rb a b) (k : Kp rb b c) : Kp rb a c := ⟨k.os.trans h.os, k.tape.trans h.tape, k.output.trans h.output, Nat.le_trans h.size k.size, fun i hi hn => (k.block i (by have := h.size; omega) hn).trans (h.block i hi hn)⟩
theorem Kp.of_below {rb : Nat} {w w' : World} (h : Below w.heap.size w w') : Kp rb w w' := ⟨h.os, h.tape, h.output, h.size, fun k hk _ => h.block k hk⟩
theorem Kp.below {rb B : Nat} {w w' : World} (h : Kp rb w w') (hB : B ≤ w.heap.size) (hr : B ≤ rb) : Below B w w' := ⟨h.os, h.tape, h.output, h.size, fun k hk => h.block k (by omega) (by omega)⟩
theorem Qag {w : World} {k : Nat} {o : Obj} (h : w.heap[k]? = some o) : k < w.heap.size := (Array.getElem?_eq_some_iff.1 h).1
theorem Qab {w : World} {b : Nat} {cs : Array Value} {t : TypeId} {f : Nat × Nat} (h : w.heap[b]? = some (.cells cs t f)) (i : Nat) : w.cell? ⟨b, i, none⟩ = cs[i]? := by simp [World.cell?, h]

structure TokAt (w : World) (b o : Nat) (t : Tok) : Prop where
 c0 : w.cell? ⟨b, o, none⟩ = some (.int .i64 t.kind)
 c1 : w.cell? ⟨b, o + 1, none⟩ = some (str t.text)
 c2 : w.cell? ⟨b, o + 2, none⟩ = some (.int .i64 t.num)
 c3 : w.cell? ⟨b, o + 3, none⟩ = some (.int .i64 (t.at_ : Int))
theorem TokAt.same {w w' : World} {b o : Nat} {t : Tok} (h : TokAt w b o t) (hb : w'.heap[b]? = w.heap[b]?) : TokAt w' b o t := by
 obtain ⟨c0, c1, c2, c3⟩ := h
 simp only [World.cell?] at c0 c1 c2 c3
 constructor <;> simp only [World.cell?] <;> rw [hb] <;> assumption
theorem TokAt.lt {w : World} {b o : Nat} {t : Tok} (h : TokAt w b o t) : b < w.heap.size := World.block_lt_of_cell? w _ h.c0
def TokSl (rb : Nat) (w : World) (v : Value) (l : List Tok) : Prop := ∃ a cap, v = .slice a l.length cap ∧ l.length ≤ cap ∧ cap ≤ maxLen ∧ ∀ j t, l[j]? = some t → ∃ b o, a = some ⟨b, o, none⟩ ∧ b < rb ∧ TokAt w b (o + j * 4) t
theorem TokSl.kp {rb : Nat} {w w' : World} {v : Value} {l : List Tok} (h : TokSl rb w v l) (k : Kp rb w w') : TokSl rb w' v l := by
 obtain ⟨a, cap, h1, h2, h3, h4⟩ := h
 refine ⟨a, cap, h1, h2, h3, fun j t hj => ?_⟩
 obtain ⟨b, o, e1, e2, e3⟩ := h4 j t hj
 exact ⟨b, o, e1, e2, e3.same (k.block b e3.lt (by omega))⟩
structure Rd (rb e : Nat) (w : World) (l : List Tok) (it dp : Nat) : Prop where
 box : ∃ v, w.heap[rb]? = some (.cells #[v, .int .i64 (e : Int), .int .i64 (it : Int), .int .i64 (dp : Int)] 49 (0, 0)) ∧ TokSl rb w v l
 num : ∀ t ∈ l, 0 ≤ t.kind ∧ t.kind ≤ 4 ∧ 0 ≤ t.num ∧ t.num ≤ 9223372036854775807 ∧ t.at_ ≤ 65536
 len : l.length ≤ 65536
 end_ : e ≤ 65536
theorem Rd.lt {rb e : Nat} {w : World} {l : List Tok} {it dp : Nat} (h : Rd rb e w l it dp) : rb < w.heap.size := by
 obtain ⟨v, h1, _⟩ := h.box
 exact Qag h1
theorem Rd.later {rb e : Nat} {w w' : World} {l : List Tok} {it dp : Nat} (h : Rd rb e w l it dp) (b : Below w.heap.size w w') : Rd rb e w' l it dp := by
 obtain ⟨v, h1, h2⟩ := h.box
 exact ⟨⟨v, (b.block _ (Qag h1)).trans h1, h2.kp (Kp.of_below b)⟩, h.num, h.len, h.end_⟩
abbrev tokV (t : Tok) : Value := .agg #[.int .i64 t.kind, str t.text, .int .i64 t.num, .int .i64 (t.at_ : Int)]
def noTok (e : Nat) : Tok := ⟨0, [], 0, e⟩
theorem Qzt {e n : Nat} {l : List Tok} {t : Tok} (h : l[n]? = some t) : ahd e n l = t := by simp [ahd, List.getD_eq_getElem?_getD, h]
theorem Qzs {e n : Nat} {l : List Tok} (h : l.length ≤ n) : ahd e n l = noTok e := by simp [ahd, List.getD_eq_getElem?_getD, List.getElem?_eq_none h, noTok]

theorem Qau {rb e : Nat} {w : World} {l : List Tok} {it dp : Nat} (h : Rd rb e w l it dp) (n : Nat) :
  Calls Tryz.prog 60 #[.pointer (some ⟨rb, 0, none⟩), .int .i64 (n : Int)] w fun en w' => en = .returned (tokV (ahd e n l)) ∧ Below w.heap.size w w' := by
 obtain ⟨v, hbx, a, cap, rfl, hc1, hc2, ht⟩ := h.box
 have c0 : w.cell? ⟨rb, 0, none⟩ = some (.slice a l.length cap) := by rw [Qab hbx]; rfl
 have c1 : w.cell? ⟨rb, 1, none⟩ = some (.int .i64 (e : Int)) := by rw [Qab hbx]; rfl
 have hrb : rb < w.heap.size := Qag hbx
 have z0 : (w.alloc (.cells #[.int .i64 0, .string ⟨#[]⟩, .int .i64 0, .int .i64 0] 83)).cell? ⟨rb, 0, none⟩ = some (.slice a l.length cap) := (World.cell?_alloc_lt w _ _ hrb).trans c0
 have z1 : (w.alloc (.cells #[.int .i64 0, .string ⟨#[]⟩, .int .i64 0, .int .i64 0] 83)).cell? ⟨rb, 1, none⟩ = some (.int .i64 (e : Int)) := (World.cell?_alloc_lt w _ _ hrb).trans c1
 have hl := h.len
 by_cases hn : n < l.length
 ·
  obtain ⟨b, o, rfl, hb, hT⟩ := ht n _ (List.getElem?_eq_getElem hn)
  have hbl := hT.lt
  have hT' : TokAt (w.alloc (.cells #[.int .i64 0, .string ⟨#[]⟩, .int .i64 0, .int .i64 0] 83)) b (o + n * 4) l[n] := hT.same (Below.heap_alloc w _ _ hbl)
  have k0 := hT'.c0
  have k1 := hT'.c1
  have k2 := hT'.c2
  have k3 := hT'.c3
  have hA := hide (Qzt (e := e) (List.getElem?_eq_getElem hn))
  generalize l[n] = t at k0 k1 k2 k3 hA
  have hg : ¬ ((l.length : Int) ≤ (n : Int)) := by omega
  clear hT hT' hbx ht c0 c1 h
  go_enter Tryz.func60, Tryz.ntmps60
  go_wp2_with fail
  refine bodyPost_ret (v := tokV t) (by simp [results, Tryz.results60, go_sem]) rfl ?_
  exact ⟨by rw [Qa hA], (Below.refl _ w).alloc (Nat.le_refl _) _⟩
 have hA := hide (Qzs (e := e) (l := l) (n := n) (by omega))
 have hg : (l.length : Int) ≤ (n : Int) := by omega
 clear hbx ht c0 c1 h
 go_enter Tryz.func60, Tryz.ntmps60
 go_wp2_with fail
 refine bodyPost_ret (v := tokV (noTok e)) (by simp [results, Tryz.results60, go_sem, noTok]) rfl ?_
 exact ⟨by rw [Qa hA], (Below.refl _ w).alloc (Nat.le_refl _) _⟩

theorem Rd.cells {rb e : Nat} {w : World} {l : List Tok} {it dp : Nat} (h : Rd rb e w l it dp) : ∃ a cap, w.cell? ⟨rb, 0, none⟩ = some (.slice a l.length cap) ∧ w.cell? ⟨rb, 1, none⟩ = some (.int .i64 (e : Int)) ∧ w.cell? ⟨rb, 2, none⟩ = some (.int .i64 (it : Int)) ∧ w.cell? ⟨rb, 3, none⟩ = some (.int .i64 (dp : Int)) ∧ ∀ o, w.frozen? ⟨rb, o, none⟩ = false := by
 obtain ⟨v, hbx, a, cap, rfl, _⟩ := h.box
 refine ⟨a, cap, by rw [Qab hbx]; rfl, by rw [Qab hbx]; rfl, by rw [Qab hbx]; rfl, by rw [Qab hbx]; rfl, fun o => by simp [World.frozen?, hbx]⟩
theorem Qad {w : World} {b : Nat} {cur : Array Value} {t : TypeId} {f : Nat × Nat} (h : w.heap[b]? = some (.cells cur t f)) (i : Nat) (v : Value) : (w.setCell ⟨b, i, none⟩ v).heap[b]? = some (.cells (cur.setIfInBounds i v) t f) := by
 obtain ⟨hlt, hk⟩ := Array.getElem?_eq_some_iff.1 h
 show (w.heap.modify b _)[b]? = _
 rw [Array.getElem?_eq_getElem (by rw [Array.size_modify]; exact hlt), Array.getElem_modify_self, hk]
 rfl
theorem hpS {w : World} {p : Addr} {v : Value} {k : Nat} (h : k ≠ p.block) : (w.setCell p v).heap[k]? = w.heap[k]? := Below.heap_setCell _ _ _ _ h
theorem Kp.set (rb : Nat) (w : World) (i : Nat) (v : Value) : Kp rb w (w.setCell ⟨rb, i, none⟩ v) := by
 have h := (Below.refl 0 w).setCell (p := ⟨rb, i, none⟩) (Nat.zero_le _) v
 exact ⟨h.os, h.tape, h.output, h.size, fun k _ hn => hpS hn⟩

theorem Qbu {rb e : Nat} {w : World} {t : Tok} {l : List Tok} {it dp : Nat} (h : Rd rb e w (t :: l) it dp) :
  Calls Tryz.prog 110 #[.pointer (some ⟨rb, 0, none⟩)] w fun en w' => en = .returned (tokV t) ∧ Rd rb e w' l it dp ∧ Kp rb w w' := by
 obtain ⟨w1, hw1⟩ : ∃ w1, w1 = w.alloc (.cells #[.int .i64 0, .string ⟨#[]⟩, .int .i64 0, .int .i64 0] 83) := ⟨_, rfl⟩
 have b1 : Below w.heap.size w w1 := by rw [hw1]; exact (Below.refl _ w).alloc (Nat.le_refl _) _
 have h1 := h.later b1
 have ha := Qau h1 0
 have hw1' := hide hw1
 have q1 : w1.heap[w.heap.size]? = some (.cells #[.int .i64 0, .string ⟨#[]⟩, .int .i64 0, .int .i64 0] 83 (0, 0)) := by rw [hw1]; exact heap_alloc_new w _
 have HH := hide (Ya h1 (Ya b1 q1))
 have e0 : ahd e 0 (t :: l) = t := rfl
 rw [e0] at ha
 clear h h1 b1 hw1 q1 e0
 go_enter Tryz.func110, Tryz.ntmps110
 go_wp2_with fail
 rw [← Qa hw1']
 refine ha.mono ?_
 clear ha
 rintro en w2 ⟨rfl, b2⟩
 obtain ⟨w3, hw3⟩ : ∃ w3, w3 = w2.alloc (.cells #[.int .i64 t.kind, str t.text, .int .i64 t.num, .int .i64 (t.at_ : Int)] 83) := ⟨_, rfl⟩
 have b3 : Below w2.heap.size w2 w3 := by rw [hw3]; exact (Below.refl _ w2).alloc (Nat.le_refl _) _
 have n3 : w3.heap[w2.heap.size]? = some (.cells #[.int .i64 t.kind, str t.text, .int .i64 t.num, .int .i64 (t.at_ : Int)] 83 (0, 0)) := by rw [hw3]; exact heap_alloc_new w2 _
 have b13 : Below w1.heap.size w1 w3 := b2.trans (b3.mono b2.size)
 have h3 := (Qa HH).1.later b13
 obtain ⟨v, hbx, a, cap, rfl, hc1, hc2, ht⟩ := h3.box
 obtain ⟨b, o, rfl, hb, hT⟩ := ht 0 t rfl
 have c0 : w3.cell? ⟨rb, 0, none⟩ = some (.slice (some ⟨b, o, none⟩) (t :: l).length cap) := by rw [Qab hbx]; rfl
 have f0 : w3.frozen? ⟨rb, 0, none⟩ = false := by simp [World.frozen?, hbx]
 rw [List.length_cons] at c0 hc1
 have hsz2 : w.heap.size < w2.heap.size := by have := b2.size; have := Qag (Qa HH).2.2; omega
 have hrw : rb < w.heap.size := by
  have h0 := (Qa HH).1.lt
  have e : w1.heap.size = w.heap.size + 1 := by rw [Qa hw1']; simp
  have := Qag hbx
  have hne : rb ≠ w.heap.size := fun e2 => by
   obtain ⟨v', hv', _⟩ := (Qa HH).1.box
   rw [e2, (Qa HH).2.2] at hv'
   simp at hv'
  omega
 have X0 : ∀ v, (w3.setCell ⟨rb, 0, none⟩ v).heap[w2.heap.size]? = some (.cells #[.int .i64 t.kind, str t.text, .int .i64 t.num, .int .i64 (t.at_ : Int)] 83 (0, 0)) := fun v => by rw [hpS (by show w2.heap.size ≠ rb; omega)]; exact n3
 have X1 : ∀ v, (w3.setCell ⟨rb, 0, none⟩ v).heap[w.heap.size]? = some (.cells #[.int .i64 0, .string ⟨#[]⟩, .int .i64 0, .int .i64 0] 83 (0, 0)) := fun v => by
  rw [hpS (by show w.heap.size ≠ rb; omega), b13.block _ (Qag (Qa HH).2.2)]
  exact (Qa HH).2.2
 have FIN : Hid (∀ v q0 q1 q2 q3, TokSl rb w3 v l → Rd rb e (((((w3.setCell ⟨rb, 0, none⟩ v).setCell ⟨w.heap.size, 0, none⟩ q0).setCell ⟨w.heap.size, 1, none⟩ q1).setCell ⟨w.heap.size, 2, none⟩ q2).setCell ⟨w.heap.size, 3, none⟩ q3) l it dp ∧ Kp rb w (((((w3.setCell ⟨rb, 0, none⟩ v).setCell ⟨w.heap.size, 0, none⟩ q0).setCell ⟨w.heap.size, 1, none⟩ q1).setCell ⟨w.heap.size, 2, none⟩ q2).setCell ⟨w.heap.size, 3, none⟩ q3)) := fun v q0 q1 q2 q3 hv => by
  have hs : ∀ k, k ≠ w.heap.size → (((((w3.setCell ⟨rb, 0, none⟩ v).setCell ⟨w.heap.size, 0, none⟩ q0).setCell ⟨w.heap.size, 1, none⟩ q1).setCell ⟨w.heap.size, 2, none⟩ q2).setCell ⟨w.heap.size, 3, none⟩ q3).heap[k]? = (w3.setCell ⟨rb, 0, none⟩ v).heap[k]? := fun k hk => by
   rw [hpS hk, hpS hk, hpS hk, hpS hk]
  have bb : Below w.heap.size w w3 := (Qa HH).2.1.trans (b13.mono (Qa HH).2.1.size)
  have kk := (((((Below.refl 0 w3).setCell (p := ⟨rb, 0, none⟩) (Nat.zero_le _) v).setCell (p := ⟨w.heap.size, 0, none⟩) (Nat.zero_le _) q0).setCell (p := ⟨w.heap.size, 1, none⟩) (Nat.zero_le _) q1).setCell (p := ⟨w.heap.size, 2, none⟩) (Nat.zero_le _) q2).setCell (p := ⟨w.heap.size, 3, none⟩) (Nat.zero_le _) q3
  have K : Kp rb w (((((w3.setCell ⟨rb, 0, none⟩ v).setCell ⟨w.heap.size, 0, none⟩ q0).setCell ⟨w.heap.size, 1, none⟩ q1).setCell ⟨w.heap.size, 2, none⟩ q2).setCell ⟨w.heap.size, 3, none⟩ q3) :=
   ⟨kk.os.trans bb.os, kk.tape.trans bb.tape, kk.output.trans bb.output, Nat.le_trans bb.size kk.size, fun k hk hn => by rw [hs k (by omega), hpS hn]; exact bb.block k hk⟩
  refine ⟨⟨⟨v, ?_, ?_⟩, fun x hx => h3.num x (List.mem_cons_of_mem _ hx), by have := h3.len; rw [List.length_cons] at this; omega, h3.end_⟩, K⟩
  · rw [hs rb (by omega)]; exact (Qad hbx 0 v).trans rfl
  obtain ⟨a, cp, e1, e2, e3, e4⟩ := hv
  refine ⟨a, cp, e1, e2, e3, fun j x hx => ?_⟩
  obtain ⟨b', o', g1, g2, g3⟩ := e4 j x hx
  refine ⟨b', o', g1, g2, g3.same ?_⟩
  rw [hs b' (by omega), hpS (by show b' ≠ rb; omega)]
 have SL : Hid (∀ (cp : Nat) (sa : Option Addr), l.length ≤ cp → cp ≤ maxLen → (0 < l.length → sa = some ⟨b, o + 4, none⟩) → TokSl rb w3 (.slice sa l.length cp) l) := fun cp sa g1 g2 g3 => by
  refine ⟨sa, cp, rfl, g1, g2, fun j x hx => ?_⟩
  have hj : j < l.length := (List.getElem?_eq_some_iff.1 hx).1
  obtain ⟨b', o', g1', g2', g3'⟩ := ht (j + 1) x (by simpa using hx)
  simp only [Option.some.injEq, Addr.mk.injEq] at g1'
  obtain ⟨rfl, rfl, _⟩ := g1'
  exact ⟨b, o + 4, g3 (by omega), hb, by rw [show o + 4 + j * 4 = o + (j + 1) * 4 by omega]; exact g3'⟩
 have HX := hide (Ya X0 X1)
 have hl : l.length ≤ 65536 := by have := h3.len; rw [List.length_cons] at this; omega
 subst hw3
 clear b2 b3 n3 b13 h3 hbx ht hT X0 X1
 by_cases hcap : 1 < cap
 case pos =>
  have k1 : ¬ (cap - 1 = 0) := by omega
  have k2 : ¬ (cap = 1) := by omega
  have k3 : 1 ≤ cap := by omega
  have Y := (Qa HX).2 (.slice (some ⟨b, o + 4, none⟩) l.length (cap - 1))
  have y0 := (Qab Y 0).trans (show _ = some (.int .i64 0) from rfl)
  have y1 := (Qab Y 1).trans (show _ = some (.string ⟨#[]⟩) from rfl)
  have y2 := (Qab Y 2).trans (show _ = some (.int .i64 0) from rfl)
  have y3 := (Qab Y 3).trans (show _ = some (.int .i64 0) from rfl)
  have yf : ∀ o', ((w2.alloc (.cells #[.int .i64 t.kind, str t.text, .int .i64 t.num, .int .i64 (t.at_ : Int)] 83)).setCell ⟨rb, 0, none⟩ (.slice (some ⟨b, o + 4, none⟩) l.length (cap - 1))).frozen? ⟨w.heap.size, o', none⟩ = false := fun o' => by simp [World.frozen?, Y]
  clear Y
  go_wp2_with fail
  refine bodyPost_ret (v := tokV t) (by simp [results, Tryz.results110, go_sem, y0, y1, y2, y3]) rfl ?_
  exact ⟨rfl, Qa FIN _ _ _ _ _ (Qa SL (cap - 1) _ (by omega) (by omega) (fun _ => rfl))⟩
 obtain rfl : l = [] := List.length_eq_zero_iff.1 (by omega)
 obtain rfl : cap = 1 := by simp at hc1; omega
 have Y := (Qa HX).2 (.slice (some ⟨b, o, none⟩) 0 0)
 have y0 := (Qab Y 0).trans (show _ = some (.int .i64 0) from rfl)
 have y1 := (Qab Y 1).trans (show _ = some (.string ⟨#[]⟩) from rfl)
 have y2 := (Qab Y 2).trans (show _ = some (.int .i64 0) from rfl)
 have y3 := (Qab Y 3).trans (show _ = some (.int .i64 0) from rfl)
 have yf : ∀ o', ((w2.alloc (.cells #[.int .i64 t.kind, str t.text, .int .i64 t.num, .int .i64 (t.at_ : Int)] 83)).setCell ⟨rb, 0, none⟩ (.slice (some ⟨b, o, none⟩) 0 0)).frozen? ⟨w.heap.size, o', none⟩ = false := fun o' => by simp [World.frozen?, Y]
 clear Y
 go_wp2_with fail
 refine bodyPost_ret (v := tokV t) (by simp [results, Tryz.results110, go_sem, y0, y1, y2, y3]) rfl ?_
 exact ⟨rfl, Qa FIN _ _ _ _ _ (Qa SL 0 _ (Nat.le_refl _) (Nat.zero_le _) (fun h => absurd h (Nat.lt_irrefl 0)))⟩
abbrev stopV (why at_ : Int) : Value := .iface 87 (.agg #[.int .i64 why, .int .i64 at_])
def Ans {α : Type} (rb e dp : Nat) (w : World) (VA : World → Value → α → Prop) (r : Rs α) (en : Ending) (w' : World) : Prop := match r with
 | .bad why at_ _ => en = .panicked [{ v := stopV why at_, recovered := false }] ∧ Kp rb w w'
 | .ok x l i => ∃ v, en = .returned v ∧ VA w' v x ∧ Rd rb e w' l i dp ∧ Kp rb w w'

theorem Qbr {rb e : Nat} {w : World} {l : List Tok} {it dp : Nat} (h : Rd rb e w l it dp) (why : Int) :
  Calls Tryz.prog 91 #[.pointer (some ⟨rb, 0, none⟩), .int .i64 why] w fun en w' => en = .panicked [{ v := stopV why (ahd e 0 l).at_, recovered := false }] ∧ Below w.heap.size w w' := by
 have ha := Qau h 0
 clear h
 generalize ahd e 0 l = t at ha
 unfold tokV at ha
 go_enter Tryz.func91, Tryz.ntmps91
 go_wp2_with fail
 refine ha.mono ?_
 clear ha
 rintro en w2 ⟨rfl, b2⟩
 have B2 := hide b2
 clear b2
 go_wp2_with fail
 rename_i hK
 refine hK _ _ ?_
 go_wp2_with fail
 exact ⟨rfl, rfl, Qa B2⟩

theorem Qdv {rb e : Nat} {w : World} {l : List Tok} {it dp : Nat} (h : Rd rb e w l it dp) :
  Calls Tryz.prog 92 #[.pointer (some ⟨rb, 0, none⟩)] w fun en w' => en = .returned (str (sgn e l)) ∧ Below w.heap.size w w' := by
 have ha := Qau h 0
 have hS := hide (show sgn e l = if (ahd e 0 l).kind = 4 then (ahd e 0 l).text else [] from rfl)
 clear h
 generalize ahd e 0 l = t at ha hS
 by_cases hk : t.kind = 4
 ·
  have hk2 : (t.kind == 4) = true := by simpa using hk
  have HK := hide hk
  clear hk
  go_enter Tryz.func92, Tryz.ntmps92
  go_wp2_with fail
  refine ha.mono ?_
  clear ha
  rintro en w2 ⟨rfl, b2⟩
  have B2 := hide b2
  clear b2
  go_wp2_with fail
  go_ret
  exact ⟨by rw [Qa hS, if_pos (Qa HK)]; rfl, (Qa B2).alloc (Qa B2).size _⟩
 have hk2 : (t.kind == 4) = false := by simpa using hk
 have HK := hide hk
 clear hk
 go_enter Tryz.func92, Tryz.ntmps92
 go_wp2_with fail
 refine ha.mono ?_
 clear ha
 rintro en w2 ⟨rfl, b2⟩
 have B2 := hide b2
 clear b2
 go_wp2_with fail
 go_ret
 exact ⟨by rw [Qa hS, if_neg (Qa HK)]; rfl, (Qa B2).alloc (Qa B2).size _⟩
end
end Go.Proofs.YtccehgfecaamoaaGreatDoor
