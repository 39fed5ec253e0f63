/- Walk of Tokens: its rounds. syn's reader: what it holds; the tokens ahead of it. syn's reader: signs, names, words, depth. -/
import Derived.Test.YtdjehbdpcdikkaaGreatDoorMt08
import Derived.Deep.WholeRow
import Derived.Test.YtdjehbdpcdikkaaGreatDoorMt01
import Derived.WalkLawsBesides
namespace Go.Proofs.YtdjehbdpcdikkaaGreatDoor
open Go.RowKit

def tkStore (p v : Value) : Sem Unit := Instr.storeAt 43 p v
theorem storeAt_tk (p v : Value) : Instr.storeAt 43 p v = tkStore p v := rfl
def flStore (p v : Value) : Sem Unit := Instr.storeAt 31 p v
theorem storeAt_fl (p v : Value) : Instr.storeAt 31 p v = flStore p v := rfl
def tkLoad (x : Value) : Sem Value := Instr.loadAt 43 x
theorem loadAt_tk (x : Value) : Instr.loadAt 43 x = tkLoad x := rfl
def flLoad (x : Value) : Sem Value := Instr.loadAt 31 x
theorem loadAt_fl (x : Value) : Instr.loadAt 31 x = flLoad x := rfl
theorem size_tk : (Tryz.prog.info? 43).map (·.size) = some 4 := by kernel_rfl
theorem size_fl : (Tryz.prog.info? 31).map (·.size) = some 2 := by kernel_rfl

theorem fl_new (w : World) (a b : Int) : (flStore (.pointer (some ⟨w.heap.size, 0, none⟩)) (.agg #[.int .i64 a, .int .i64 b])).run Tryz.prog (w.alloc (.cells #[.int .i64 0, .int .i64 0] 31)) = .ok () (w.alloc (.cells #[.int .i64 a, .int .i64 b] 31)) :=
 run_storeAt_new w 31 _ _ size_fl rfl (by simp [Value.oneCell'])
theorem fl_store {w : World} {b : Nat} {p0 p1 : Value} (h : w.heap[b]? = some (.cells #[p0, p1] 31)) (q0 q1 : Int) :
  (flStore (.pointer (some ⟨b, 0, none⟩)) (.agg #[.int .i64 q0, .int .i64 q1])).run Tryz.prog w = .ok () ((w.setCell ⟨b, 0, none⟩ (.int .i64 q0)).setCell ⟨b, 1, none⟩ (.int .i64 q1)) := by
 refine run_storeAt_mid w b 0 31 #[.int .i64 q0, .int .i64 q1] (fun j hj => ⟨?_, Lib.frozen_of_heap h _⟩) size_fl (by simp [Value.oneCell'])
 have hj : j < 2 := hj
 rw [Lib.cell_of_heap h]
 rcases (by omega : j = 0 ∨ j = 1) with rfl | rfl <;> rfl
theorem tk_store {w : World} {b : Nat} {p0 p1 p2 p3 : Value} (h : w.heap[b]? = some (.cells #[p0, p1, p2, p3] 43)) (k n a : Int) (t : ByteArray) :
  (tkStore (.pointer (some ⟨b, 0, none⟩)) (.agg #[.int .i64 k, .string t, .int .i64 n, .int .i64 a])).run Tryz.prog w =
   .ok () ((((w.setCell ⟨b, 0, none⟩ (.int .i64 k)).setCell ⟨b, 1, none⟩ (.string t)).setCell ⟨b, 2, none⟩ (.int .i64 n)).setCell ⟨b, 3, none⟩ (.int .i64 a)) := by
 refine run_storeAt_mid w b 0 43 #[.int .i64 k, .string t, .int .i64 n, .int .i64 a] (fun j hj => ⟨?_, Lib.frozen_of_heap h _⟩) size_tk (by simp [Value.oneCell'])
 have hj : j < 4 := hj
 rw [Lib.cell_of_heap h]
 rcases (by omega : j = 0 ∨ j = 1 ∨ j = 2 ∨ j = 3) with rfl | rfl | rfl | rfl <;> rfl
theorem fl_load {w : World} {b : Nat} {q0 q1 : Value} (h : w.heap[b]? = some (.cells #[q0, q1] 31)) :
  (flLoad (.pointer (some ⟨b, 0, none⟩))).run Tryz.prog w = .ok (.agg #[q0, q1]) w := by
 refine run_loadAt_mid w b 0 31 [q0, q1] _ (fun q v hq => ?_) Tryz.underlying31 rfl size_fl
 rw [Lib.cell_of_heap h, Nat.zero_add, ← hq]
 simp
theorem tk_load {w : World} {b : Nat} {q0 q1 q2 q3 : Value} (h : w.heap[b]? = some (.cells #[q0, q1, q2, q3] 43)) :
  (tkLoad (.pointer (some ⟨b, 0, none⟩))).run Tryz.prog w = .ok (.agg #[q0, q1, q2, q3]) w := by
 refine run_loadAt_mid w b 0 43 [q0, q1, q2, q3] _ (fun q v hq => ?_) Tryz.underlying43 rfl size_tk
 rw [Lib.cell_of_heap h, Nat.zero_add, ← hq]
 simp
theorem six_tok (w : World) (b c : Nat) (q0 q1 q2 q3 q4 q5 p0 p1 p2 p3 : Value) (hne : b ≠ c) (h : w.heap[b]? = some (.cells #[p0, p1, p2, p3] 43)) : (six w b c q0 q1 q2 q3 q4 q5).heap[b]? = some (.cells #[q0, q1, q2, q3] 43) := by
 rw [heap_setCell_other _ _ _ _ hne, heap_setCell_other _ _ _ _ hne]
 exact heap_setCell_same _ b 3 _ _ q3 (heap_setCell_same _ b 2 _ _ q2 (heap_setCell_same _ b 1 _ _ q1 (heap_setCell_same _ b 0 _ _ q0 h)))

/-- Behind a token's call: both boxes written, in world w4. -/
structure Wrote (w wr w2 w4 : World) (fb : Nat) (T : TV) : Prop where
 eq : w4 = six w2 wr.heap.size fb (.int .i64 T.kd) (.string T.tx) (.int .i64 T.nm) (.int .i64 T.at_) (.int .i64 T.why) (.int .i64 T.fa)
 ft : w4.heap[wr.heap.size]? = some (.cells #[.int .i64 T.kd, .string T.tx, .int .i64 T.nm, .int .i64 T.at_] 43)
 ff : w4.heap[fb]? = some (.cells #[.int .i64 T.why, .int .i64 T.fa] 31)
 fr : w4.heap[w.heap.size]? = some fltZ
 bel : Below w.heap.size w w4
theorem wrote {s : ByteArray} {w wr w2 : World} {fb : Nat} {v : Value} {toks : List Tok} {a : Int} (h : TkInv s w fb v wr toks a 0 0) (b2 : Below (wr.heap.size + 1) (wr.alloc tokZ) w2) (T : TV) :
  ∃ w3 w4, (tkStore (.pointer (some ⟨wr.heap.size, 0, none⟩)) (.agg #[.int .i64 T.kd, .string T.tx, .int .i64 T.nm, .int .i64 T.at_])).run Tryz.prog w2 = .ok () w3 ∧
   (flStore (.pointer (some ⟨fb, 0, none⟩)) (.agg #[.int .i64 T.why, .int .i64 T.fa])).run Tryz.prog w3 = .ok () w4 ∧ Wrote w wr w2 w4 fb T := by
 have hsz := h.bel.size
 have hfb := h.fb1
 have hfl : fb < wr.heap.size := (Array.getElem?_eq_some_iff.1 h.fbx).1
 have bxT : w2.heap[wr.heap.size]? = some tokZ := by rw [b2.block _ (by omega)]; exact heap_alloc_new wr _
 have bxF : w2.heap[fb]? = some (.cells #[.int .i64 0, .int .i64 0] 31) := by rw [b2.block _ (by omega), Lib.alloc_old wr _ _ hfl]; exact h.fbx
 have bxR : w2.heap[w.heap.size]? = some fltZ := by rw [b2.block _ (by omega), Lib.alloc_old wr _ _ (by omega)]; exact h.rb
 have n1 : fb ≠ wr.heap.size := by omega
 have e3 : ((((w2.setCell ⟨wr.heap.size, 0, none⟩ (.int .i64 T.kd)).setCell ⟨wr.heap.size, 1, none⟩ (.string T.tx)).setCell ⟨wr.heap.size, 2, none⟩ (.int .i64 T.nm)).setCell ⟨wr.heap.size, 3, none⟩ (.int .i64 T.at_)).heap[fb]? = some (.cells #[.int .i64 0, .int .i64 0] 31) := by
  rw [heap_setCell_other _ _ _ _ n1, heap_setCell_other _ _ _ _ n1, heap_setCell_other _ _ _ _ n1, heap_setCell_other _ _ _ _ n1, bxF]
 have bel2 : Below w.heap.size w w2 := (h.bel.alloc (by omega) _).trans (b2.mono (by omega))
 exact ⟨_, _, tk_store bxT _ _ _ _, fl_store e3 _ _, ⟨rfl, six_tok _ _ _ _ _ _ _ _ _ _ _ _ _ n1.symm bxT, six_flt _ _ _ _ _ _ _ _ _ _ _ n1 bxF,
  by rw [six_other _ _ _ _ _ _ _ _ _ _ (by omega) (by omega)]; exact bxR, six_below bel2 (by omega) (by omega) _ _ _ _ _ _⟩⟩
/-- The result's box written, at the end. -/
theorem last {w wr : World} (hb : Below w.heap.size w wr) (hr : wr.heap[w.heap.size]? = some fltZ) (p q : Int) :
  ∃ w9, (flStore (.pointer (some ⟨w.heap.size, 0, none⟩)) (.agg #[.int .i64 p, .int .i64 q])).run Tryz.prog wr = .ok () w9 ∧ w9.cell? ⟨w.heap.size, 0, none⟩ = some (.int .i64 p) ∧ w9.cell? ⟨w.heap.size, 1, none⟩ = some (.int .i64 q) ∧
   Below w.heap.size w w9 ∧ (∀ k, w.heap.size + 1 ≤ k → w9.heap[k]? = wr.heap[k]?) := by
 have h9 := two_flt wr w.heap.size (.int .i64 p) (.int .i64 q) _ _ hr
 refine ⟨_, fl_store hr p q, by rw [Lib.cell_of_heap h9]; rfl, by rw [Lib.cell_of_heap h9]; rfl, (hb.setCell (p := ⟨w.heap.size, 0, none⟩) (Nat.le_refl _) _).setCell (p := ⟨w.heap.size, 1, none⟩) (Nat.le_refl _) _, fun k hk => ?_⟩
 rw [heap_setCell_other _ _ _ _ (by show k ≠ w.heap.size; omega), heap_setCell_other _ _ _ _ (by show k ≠ w.heap.size; omega)]

attribute [local go_sem ↓] storeAt_tk storeAt_fl loadAt_tk loadAt_fl
set_option maxRecDepth 100000 in
set_option maxHeartbeats 4000000 in
theorem tokens_any (s : ByteArray) (hs : s.size ≤ 65536) (w : World) (hE : Env w) :
  Calls Tryz.prog 38 #[.string s] w fun e w' => TokAns (lexP s.data.toList) w w' e := by
 have H := hide (show lexP s.data.toList = scan 0 s.data.toList by unfold lexP; rw [← size_len, if_neg (by omega)])
 have hb0 : Below w.heap.size w (w.alloc fltZ) := (Below.refl w.heap.size w).alloc (Nat.le_refl _) _
 obtain ⟨ml, hml⟩ := (hE.later hb0).ml
 have HG := hide (gapsEnd_any s 0 ml (Nat.zero_le _) hs (w.alloc fltZ) hml)
 have HE := hide hE
 clear hml hE hb0
 go_enter Tryz.func38, Tryz.ntmps38
 go_wp2_with fail
 refine (unhide HG).mono ?_
 rintro e w1 ⟨hge, b1⟩
 obtain ⟨a, why, fa, rfl, hst⟩ := gap_out hge
 have HT := hide (tk_start (by simpa using b1) hst)
 have hS0 := fl_new w1 why fa
 obtain ⟨wr0, hwr0⟩ : ∃ wr0, w1.alloc (.cells #[.int .i64 why, .int .i64 fa] 31) = wr0 := ⟨_, rfl⟩
 rw [hwr0] at HT hS0
 clear hge b1 hst HG hwr0
 go_wp2_with fail
 obtain ⟨fb, hfb2⟩ : ∃ fb, w1.heap.size = fb := ⟨_, rfl⟩
 rw [hfb2] at HT
 rw [hfb2]
 clear hS0 hfb2
 go_loopw [4, 5] (fun v i wr => TkRel s w fb v i wr) (fun _ i wr => tkMu s.size fb i wr)
 case atStart => exact ⟨[], a, why, fa, rfl, HT⟩
 case round =>
  clear HT
  obtain ⟨toks, a, why, fa, rfl, HH⟩ := hrel
  have c0 : wr.cell? ⟨fb, 0, none⟩ = some (.int .i64 why) := by rw [Lib.cell_of_heap (unhide HH).fbx]; rfl
  rcases (unhide HH).st with ⟨rfl, rfl, m, rfl, hms, htl, hgap, hsc⟩ | ⟨rfl, rfl, m, rfl, hsc⟩
  ·
   by_cases hlt : m < s.size
   ·
    have hsz := (unhide HH).bel.size
    have hEr := (unhide HE).later (unhide HH).bel
    have HTK := hide (token_any s m hlt hs (wr.alloc tokZ) (hEr.later ((Below.refl wr.heap.size wr).alloc (Nat.le_refl _) _)))
    have HHH := HH
    clear hEr HH
    go_wp2_with fail
    refine (unhide HTK).mono ?_
    rintro e w2 ⟨rfl, b2⟩
    have b2' : Below (wr.heap.size + 1) (wr.alloc tokZ) w2 := by simpa using b2
    clear b2 HTK c0
    cases ht : tokAt (s.data.toList.drop m) with
    | bad why o =>
     have hwz2 : (why != 0) = true := bne_iff_ne.2 (tok_bad ht).1
     have HSC := hide (show scan 0 s.data.toList = .bad why (m + o) by
      rw [hsc]; exact app_bad _ _ _ _ (scan_bad (by rw [drop_at s m hlt]; simp) hgap ht))
     obtain ⟨w3, w4, hS1, hS2, hW⟩ := wrote (unhide HHH) b2' (resT m (.bad why o))
     have c0 : w4.cell? ⟨fb, 0, none⟩ = some (.int .i64 why) := by rw [Lib.cell_of_heap hW.ff]; rfl
     have hL := fl_load (w := w4.drew) hW.ff
     obtain ⟨w9, hS9, z0, z1, bw, _⟩ := last (wr := w4.drew) hW.bel.drew hW.fr why ((m + o : Nat) : Int)
     have e : resT m (.bad why o) = ⟨0, ⟨#[]⟩, 0, 0, 0, why, ((m + o : Nat) : Int)⟩ := rfl
     rw [e] at hS1 hS2 hL ⊢
     obtain ⟨q, hq⟩ : ∃ q : Int, ((m + o : Nat) : Int) = q := ⟨_, rfl⟩
     rw [hq] at hS1 hS2 hS9 z1 hL ⊢
     have HQ := hide hq
     clear hsc hgap ht HHH hW b2' e hq
     go_wp2_with fail
     go_region
     all_goals
      go_wp2_with fail
      refine bodyPost_ret (v := .tuple #[.slice none 0 0, .agg #[.int .i64 why, .int .i64 q]]) (by simp [results, Tryz.results38, go_sem, z0, z1]) rfl ?_
      rw [unhide H, unhide HSC, ← unhide HQ]
      exact ⟨_, rfl, World.ownsRow_nil _ _ _ _, bw⟩
    | tok kd tx nm n =>
     have hp := tok_pos ht
     rw [len_drop] at hp
     obtain ⟨i0, hi, hz0, hz1, hz2⟩ := infoT_parts
     have HI := hide (show Tryz.prog.info? 43 = some i0 ∧ i0.zero = some (.agg #[.int .i64 0, .string ⟨#[]⟩, .int .i64 0, .int .i64 0]) ∧ i0.size = 4 ∧ i0.bytes = 40 from ⟨hi, hz0, hz1, hz2⟩)
     have HOW := hide (own_six (unhide HHH).own (unhide HHH).fbx b2' (.int .i64 kd) (.string ⟨tx.toArray⟩) (.int .i64 nm) (.int .i64 (m : Int)) (.int .i64 0) (.int .i64 0))
     have e : resT m (.tok kd tx nm n) = ⟨kd, ⟨tx.toArray⟩, nm, (m : Int), (m : Int) + (n : Int), 0, 0⟩ := by simp [resT]
     rw [e]
     obtain ⟨w3, w4, hS1, hS2, hW⟩ := wrote (unhide HHH) b2' ⟨kd, ⟨tx.toArray⟩, nm, (m : Int), (m : Int) + (n : Int), 0, 0⟩
     have c0 : w4.cell? ⟨fb, 0, none⟩ = some (.int .i64 0) := by rw [Lib.cell_of_heap hW.ff]; rfl
     have hL := tk_load hW.ft
     have hW4 := hW.bel.size
     have HEQ := hide hW.eq
     rw [← hW.eq] at HOW
     have HT := hide ht
     have HSC := hide hsc
     have HGP := hide hgap
     have HB2 := hide b2'
     have HBL := hide hW.bel
     clear hsc hgap ht hi hz0 hz1 hz2 b2' e hW
     go_wp2_with (at_builtin; refine wpList_append_own _ rfl _ _ 38 rfl (w.heap.size + 1) 43 i0 (.agg #[.int .i64 0, .string ⟨#[]⟩, .int .i64 0, .int .i64 0]) 4 40 Tryz.underlying38 (unhide HI).1 (unhide HI).2.1 (unhide HI).2.2.1 (unhide HI).2.2.2 rfl (by decide) _ _ _ rfl ((unhide HOW).alloc _) ⟨_, 0, none⟩ 1 1 [.int .i64 kd, .string ⟨tx.toArray⟩, .int .i64 nm, .int .i64 (m : Int)] rfl rfl (tok_cell _ _ _ _ _) (tok_one _ _ _ _) (by unfold maxLen; omega) (by omega) (by simp; omega) ?_; intro v' w5 hown' hgrow _)
     have hgrow' := hgrow
     rw [unhide HEQ] at hgrow'
     have HGR := hide hgrow'
     have HON := hide hown'
     obtain ⟨bel5, f5⟩ := tk_mid (unhide HHH) (unhide HB2) hgrow'
     obtain ⟨ml, hml⟩ := ((unhide HE).later bel5).ml
     clear hgrow hgrow' hown' HOW HEQ HBL hL hS1 hS2 c0
     refine (gapsEnd_is s (m + n) _ ml (by omega) (by omega) hs _ hml).mono ?_
     rintro e w6 ⟨hge, b6⟩
     obtain ⟨a', why', fa', rfl, hst⟩ := gap_out hge
     have f6 : w6.heap[fb]? = some (.cells #[.int .i64 0, .int .i64 0] 31) := by rw [b6.block _ (Array.getElem?_eq_some_iff.1 f5).1]; exact f5
     have hS := fl_store f6 why' fa'
     have hN := tk_next (unhide HHH) hp.1 htl (unhide HGP) (unhide HT) (unhide HSC) (unhide HB2) (unhide HON) (unhide HGR) b6 hst
     have hc := two_flt w6 fb (.int .i64 why') (.int .i64 fa') _ _ f6
     obtain ⟨w7, hw7⟩ : ∃ w7, (w6.setCell ⟨fb, 0, none⟩ (.int .i64 why')).setCell ⟨fb, 1, none⟩ (.int .i64 fa') = w7 := ⟨_, rfl⟩
     rw [hw7] at hS hN hc
     have hmu : tkMu s.size fb (.int .i64 a') w7 < tkMu s.size fb (.int .i64 (m : Int)) wr := by
      unfold tkMu
      have e1 : w7.cell? ⟨fb, 0, none⟩ = some (.int .i64 why') := by rw [Lib.cell_of_heap hc]; rfl
      have e2 : wr.cell? ⟨fb, 0, none⟩ = some (.int .i64 0) := by rw [Lib.cell_of_heap (unhide HHH).fbx]; rfl
      rw [e1, e2]
      rw [show fltOf (some (.int .i64 why')) = why' from rfl, show fltOf (some (.int .i64 0)) = 0 from rfl, if_pos rfl]
      rw [show intOf (.int .i64 a') = a' from rfl, show intOf (.int .i64 (m : Int)) = (m : Int) from rfl]
      by_cases h0 : why' = 0
      ·
       rw [if_pos h0]
       have := hN.2.1 h0
       omega
      · rw [if_neg h0]; omega
     have HR := hide (show TkRel s w fb v' (.int .i64 a') w7 from ⟨_, _, _, _, rfl, hide hN.1⟩)
     have HMU := hide hmu
     clear hge b6 hst f5 f6 hN hc hw7 hmu bel5 hml HHH HON HGR
     go_wp2_with fail
     go_roundw
     case rel => exact unhide HR
     case measure => exact unhide HMU
   ·
    have HSC := hide (show scan 0 s.data.toList = .ok toks by rw [hsc, drop_end s m (by omega), scan_nil]; simp [Out.app])
    have HO := hide (unhide HH).own
    obtain ⟨w9, hS9, z0, z1, bw, HO2⟩ := last (unhide HH).bel (unhide HH).rb 0 0
    have HO3 := hide (out_own (unhide HO) HO2)
    clear hsc hgap HH HO HO2
    go_wp2_with fail
    refine bodyPost_ret (v := .tuple #[u4, .agg #[.int .i64 0, .int .i64 0]]) (by simp [results, Tryz.results38, go_sem, z0, z1]) rfl ?_
    rw [unhide H, unhide HSC]
    exact ⟨u4, rfl, unhide HO3, bw⟩
  ·
   have HSC := hide hsc
   obtain ⟨w9, hS9, z0, z1, bw, _⟩ := last (wr := wr.drew) (unhide HH).bel.drew (unhide HH).rb 7 (m : Int)
   have hL := fl_load (w := wr.drew) (unhide HH).fbx
   clear hsc HH
   go_wp2_with fail
   go_region
   all_goals
    go_wp2_with fail
    refine bodyPost_ret (v := .tuple #[.slice none 0 0, .agg #[.int .i64 7, .int .i64 (m : Int)]]) (by simp [results, Tryz.results38, go_sem, z0, z1]) rfl ?_
    rw [unhide H, unhide HSC]
    exact ⟨_, rfl, World.ownsRow_nil _ _ _ _, bw⟩
end Go.Proofs.YtdjehbdpcdikkaaGreatDoor

namespace Go.Proofs.YtdjehbdpcdikkaaGreatDoor
open Go.RowKit

/-- Nothing has turned but one block. -/
structure Kp (rb : Nat) (w w' : World) : Prop where
 os : w'.os = w.os
 tape : w'.tape = w.tape
 output : w'.output = w.output
 size : w.heap.size ≤ w'.heap.size
 block : ∀ k, k < w.heap.size → k ≠ rb → w'.heap[k]? = w.heap[k]?
theorem Kp.refl (rb : Nat) (w : World) : Kp rb w w := ⟨rfl, rfl, rfl, Nat.le_refl _, fun _ _ _ => rfl⟩
theorem Kp.trans {rb : Nat} {a b c : World} (h : Kp rb a b) (k : Kp rb b c) : Kp rb a c := ⟨k.os.trans h.os, k.tape.trans h.tape, k.output.trans h.output, Nat.le_trans h.size k.size, fun i hi hn => (k.block i (by have := h.size; omega) hn).trans (h.block i hi hn)⟩
theorem Kp.of_below {rb : Nat} {w w' : World} (h : Below w.heap.size w w') : Kp rb w w' := ⟨h.os, h.tape, h.output, h.size, fun k hk _ => h.block k hk⟩
theorem Kp.below {rb B : Nat} {w w' : World} (h : Kp rb w w') (hB : B ≤ w.heap.size) (hr : B ≤ rb) : Below B w w' := ⟨h.os, h.tape, h.output, h.size, fun k hk => h.block k (by omega) (by omega)⟩
theorem lt_hp {w : World} {k : Nat} {o : Obj} (h : w.heap[k]? = some o) : k < w.heap.size := (Array.getElem?_eq_some_iff.1 h).1
theorem cell_hp {w : World} {b : Nat} {cs : Array Value} {t : TypeId} {f : Nat × Nat} (h : w.heap[b]? = some (.cells cs t f)) (i : Nat) : w.cell? ⟨b, i, none⟩ = cs[i]? := by simp [World.cell?, h]

/-- The four cells of a token. -/
structure TokAt (w : World) (b o : Nat) (t : Tok) : Prop where
 c0 : w.cell? ⟨b, o, none⟩ = some (.int .i64 t.kind)
 c1 : w.cell? ⟨b, o + 1, none⟩ = some (str t.text)
 c2 : w.cell? ⟨b, o + 2, none⟩ = some (.int .i64 t.num)
 c3 : w.cell? ⟨b, o + 3, none⟩ = some (.int .i64 (t.at_ : Int))
theorem TokAt.same {w w' : World} {b o : Nat} {t : Tok} (h : TokAt w b o t) (hb : w'.heap[b]? = w.heap[b]?) : TokAt w' b o t := by
 obtain ⟨c0, c1, c2, c3⟩ := h
 simp only [World.cell?] at c0 c1 c2 c3
 constructor <;> simp only [World.cell?] <;> rw [hb] <;> assumption
theorem TokAt.lt {w : World} {b o : Nat} {t : Tok} (h : TokAt w b o t) : b < w.heap.size := World.block_lt_of_cell? w _ h.c0
/-- Tokens that are still to be read, in blocks below the reader's. -/
def TokSl (rb : Nat) (w : World) (v : Value) (l : List Tok) : Prop := ∃ a cap, v = .slice a l.length cap ∧ l.length ≤ cap ∧ cap ≤ maxLen ∧ ∀ j t, l[j]? = some t → ∃ b o, a = some ⟨b, o, none⟩ ∧ b < rb ∧ TokAt w b (o + j * 4) t
theorem TokSl.kp {rb : Nat} {w w' : World} {v : Value} {l : List Tok} (h : TokSl rb w v l) (k : Kp rb w w') : TokSl rb w' v l := by
 obtain ⟨a, cap, h1, h2, h3, h4⟩ := h
 refine ⟨a, cap, h1, h2, h3, fun j t hj => ?_⟩
 obtain ⟨b, o, e1, e2, e3⟩ := h4 j t hj
 exact ⟨b, o, e1, e2, e3.same (k.block b e3.lt (by omega))⟩
/-- The reader: the tokens that are left, the text's length, how many items have begun, how many are open. -/
structure Rd (rb e : Nat) (w : World) (l : List Tok) (it dp : Nat) : Prop where
 box : ∃ v, w.heap[rb]? = some (.cells #[v, .int .i64 (e : Int), .int .i64 (it : Int), .int .i64 (dp : Int)] 96 (0, 0)) ∧ TokSl rb w v l
 num : ∀ t ∈ l, 0 ≤ t.kind ∧ t.kind ≤ 4 ∧ 0 ≤ t.num ∧ t.num ≤ 9223372036854775807 ∧ t.at_ ≤ 65536
 len : l.length ≤ 65536
 end_ : e ≤ 65536
theorem Rd.lt {rb e : Nat} {w : World} {l : List Tok} {it dp : Nat} (h : Rd rb e w l it dp) : rb < w.heap.size := by
 obtain ⟨v, h1, _⟩ := h.box
 exact lt_hp h1
theorem Rd.later {rb e : Nat} {w w' : World} {l : List Tok} {it dp : Nat} (h : Rd rb e w l it dp) (b : Below w.heap.size w w') : Rd rb e w' l it dp := by
 obtain ⟨v, h1, h2⟩ := h.box
 exact ⟨⟨v, (b.block _ (lt_hp h1)).trans h1, h2.kp (Kp.of_below b)⟩, h.num, h.len, h.end_⟩
/-- A token as Go has it. -/
abbrev tokV (t : Tok) : Value := .agg #[.int .i64 t.kind, str t.text, .int .i64 t.num, .int .i64 (t.at_ : Int)]
/-- The token that stands behind the last. -/
def noTok (e : Nat) : Tok := ⟨0, [], 0, e⟩
theorem ahd_some {e n : Nat} {l : List Tok} {t : Tok} (h : l[n]? = some t) : ahd e n l = t := by simp [ahd, List.getD_eq_getElem?_getD, h]
theorem ahd_none {e n : Nat} {l : List Tok} (h : l.length ≤ n) : ahd e n l = noTok e := by simp [ahd, List.getD_eq_getElem?_getD, List.getElem?_eq_none h, noTok]

set_option maxRecDepth 100000 in
set_option maxHeartbeats 4000000 in
theorem ahead_any {rb e : Nat} {w : World} {l : List Tok} {it dp : Nat} (h : Rd rb e w l it dp) (n : Nat) :
  Calls Tryz.prog 107 #[.pointer (some ⟨rb, 0, none⟩), .int .i64 (n : Int)] w fun en w' => en = .returned (tokV (ahd e n l)) ∧ Below w.heap.size w w' := by
 obtain ⟨v, hbx, a, cap, rfl, hc1, hc2, ht⟩ := h.box
 have c0 : w.cell? ⟨rb, 0, none⟩ = some (.slice a l.length cap) := by rw [cell_hp hbx]; rfl
 have c1 : w.cell? ⟨rb, 1, none⟩ = some (.int .i64 (e : Int)) := by rw [cell_hp hbx]; rfl
 have hrb : rb < w.heap.size := lt_hp hbx
 have z0 : (w.alloc (.cells #[.int .i64 0, .string ⟨#[]⟩, .int .i64 0, .int .i64 0] 43)).cell? ⟨rb, 0, none⟩ = some (.slice a l.length cap) := (World.cell?_alloc_lt w _ _ hrb).trans c0
 have z1 : (w.alloc (.cells #[.int .i64 0, .string ⟨#[]⟩, .int .i64 0, .int .i64 0] 43)).cell? ⟨rb, 1, none⟩ = some (.int .i64 (e : Int)) := (World.cell?_alloc_lt w _ _ hrb).trans c1
 have hl := h.len
 by_cases hn : n < l.length
 ·
  obtain ⟨b, o, rfl, hb, hT⟩ := ht n _ (List.getElem?_eq_getElem hn)
  have hbl := hT.lt
  have hT' : TokAt (w.alloc (.cells #[.int .i64 0, .string ⟨#[]⟩, .int .i64 0, .int .i64 0] 43)) b (o + n * 4) l[n] := hT.same (Below.heap_alloc w _ _ hbl)
  have k0 := hT'.c0
  have k1 := hT'.c1
  have k2 := hT'.c2
  have k3 := hT'.c3
  have hA := hide (ahd_some (e := e) (List.getElem?_eq_getElem hn))
  generalize l[n] = t at k0 k1 k2 k3 hA
  have hg : ¬ ((l.length : Int) ≤ (n : Int)) := by omega
  clear hT hT' hbx ht c0 c1 h
  go_enter Tryz.func107, Tryz.ntmps107
  go_wp2_with fail
  refine bodyPost_ret (v := tokV t) (by simp [results, Tryz.results107, go_sem]) rfl ?_
  exact ⟨by rw [unhide hA], (Below.refl _ w).alloc (Nat.le_refl _) _⟩
 ·
  have hA := hide (ahd_none (e := e) (l := l) (n := n) (by omega))
  have hg : (l.length : Int) ≤ (n : Int) := by omega
  clear hbx ht c0 c1 h
  go_enter Tryz.func107, Tryz.ntmps107
  go_wp2_with fail
  refine bodyPost_ret (v := tokV (noTok e)) (by simp [results, Tryz.results107, go_sem, noTok]) rfl ?_
  exact ⟨by rw [unhide hA], (Below.refl _ w).alloc (Nat.le_refl _) _⟩

/-- The reader's box, written. -/
theorem Rd.cells {rb e : Nat} {w : World} {l : List Tok} {it dp : Nat} (h : Rd rb e w l it dp) : ∃ a cap, w.cell? ⟨rb, 0, none⟩ = some (.slice a l.length cap) ∧ w.cell? ⟨rb, 1, none⟩ = some (.int .i64 (e : Int)) ∧ w.cell? ⟨rb, 2, none⟩ = some (.int .i64 (it : Int)) ∧ w.cell? ⟨rb, 3, none⟩ = some (.int .i64 (dp : Int)) ∧ ∀ o, w.frozen? ⟨rb, o, none⟩ = false := by
 obtain ⟨v, hbx, a, cap, rfl, _⟩ := h.box
 refine ⟨a, cap, by rw [cell_hp hbx]; rfl, by rw [cell_hp hbx]; rfl, by rw [cell_hp hbx]; rfl, by rw [cell_hp hbx]; rfl, fun o => by simp [World.frozen?, hbx]⟩
theorem set_hp {w : World} {b : Nat} {cur : Array Value} {t : TypeId} {f : Nat × Nat} (h : w.heap[b]? = some (.cells cur t f)) (i : Nat) (v : Value) : (w.setCell ⟨b, i, none⟩ v).heap[b]? = some (.cells (cur.setIfInBounds i v) t f) := by
 obtain ⟨hlt, hk⟩ := Array.getElem?_eq_some_iff.1 h
 show (w.heap.modify b _)[b]? = _
 rw [Array.getElem?_eq_getElem (by rw [Array.size_modify]; exact hlt), Array.getElem_modify_self, hk]
 rfl
theorem Kp.set (rb : Nat) (w : World) (i : Nat) (v : Value) : Kp rb w (w.setCell ⟨rb, i, none⟩ v) := by
 have h := (Below.refl 0 w).setCell (p := ⟨rb, i, none⟩) (Nat.zero_le _) v
 exact ⟨h.os, h.tape, h.output, h.size, fun k _ hn => Below.heap_setCell _ _ _ _ hn⟩

set_option maxRecDepth 100000 in
set_option maxHeartbeats 4000000 in
theorem take_any {rb e : Nat} {w : World} {t : Tok} {l : List Tok} {it dp : Nat} (h : Rd rb e w (t :: l) it dp) :
  Calls Tryz.prog 150 #[.pointer (some ⟨rb, 0, none⟩)] w fun en w' => en = .returned (tokV t) ∧ Rd rb e w' l it dp ∧ Kp rb w w' := by
 obtain ⟨w1, hw1⟩ : ∃ w1, w1 = w.alloc (.cells #[.int .i64 0, .string ⟨#[]⟩, .int .i64 0, .int .i64 0] 43) := ⟨_, rfl⟩
 have b1 : Below w.heap.size w w1 := by rw [hw1]; exact (Below.refl _ w).alloc (Nat.le_refl _) _
 have h1 := h.later b1
 have ha := ahead_any h1 0
 have hw1' := hide hw1
 have q1 : w1.heap[w.heap.size]? = some (.cells #[.int .i64 0, .string ⟨#[]⟩, .int .i64 0, .int .i64 0] 43 (0, 0)) := by rw [hw1]; exact heap_alloc_new w _
 have HH := hide (And.intro h1 (And.intro b1 q1))
 have e0 : ahd e 0 (t :: l) = t := rfl
 rw [e0] at ha
 clear h h1 b1 hw1 q1 e0
 go_enter Tryz.func150, Tryz.ntmps150
 go_wp2_with fail
 rw [← unhide hw1']
 refine ha.mono ?_
 clear ha
 rintro en w2 ⟨rfl, b2⟩
 obtain ⟨w3, hw3⟩ : ∃ w3, w3 = w2.alloc (.cells #[.int .i64 t.kind, str t.text, .int .i64 t.num, .int .i64 (t.at_ : Int)] 43) := ⟨_, rfl⟩
 have b3 : Below w2.heap.size w2 w3 := by rw [hw3]; exact (Below.refl _ w2).alloc (Nat.le_refl _) _
 have n3 : w3.heap[w2.heap.size]? = some (.cells #[.int .i64 t.kind, str t.text, .int .i64 t.num, .int .i64 (t.at_ : Int)] 43 (0, 0)) := by rw [hw3]; exact heap_alloc_new w2 _
 have b13 : Below w1.heap.size w1 w3 := b2.trans (b3.mono b2.size)
 have h3 := (unhide HH).1.later b13
 obtain ⟨v, hbx, a, cap, rfl, hc1, hc2, ht⟩ := h3.box
 obtain ⟨b, o, rfl, hb, hT⟩ := ht 0 t rfl
 have c0 : w3.cell? ⟨rb, 0, none⟩ = some (.slice (some ⟨b, o, none⟩) (t :: l).length cap) := by rw [cell_hp hbx]; rfl
 have f0 : w3.frozen? ⟨rb, 0, none⟩ = false := by simp [World.frozen?, hbx]
 rw [List.length_cons] at c0 hc1
 have hsz2 : w.heap.size < w2.heap.size := by have := b2.size; have := lt_hp (unhide HH).2.2; omega
 have hrw : rb < w.heap.size := by
  have h0 := (unhide HH).1.lt
  have e : w1.heap.size = w.heap.size + 1 := by rw [unhide hw1']; simp
  have := lt_hp hbx
  have hne : rb ≠ w.heap.size := fun e2 => by
   obtain ⟨v', hv', _⟩ := (unhide HH).1.box
   rw [e2, (unhide HH).2.2] at hv'
   simp at hv'
  omega
 have X0 : ∀ v, (w3.setCell ⟨rb, 0, none⟩ v).heap[w2.heap.size]? = some (.cells #[.int .i64 t.kind, str t.text, .int .i64 t.num, .int .i64 (t.at_ : Int)] 43 (0, 0)) := fun v => by rw [Below.heap_setCell _ _ _ _ (by show w2.heap.size ≠ rb; omega)]; exact n3
 have X1 : ∀ v, (w3.setCell ⟨rb, 0, none⟩ v).heap[w.heap.size]? = some (.cells #[.int .i64 0, .string ⟨#[]⟩, .int .i64 0, .int .i64 0] 43 (0, 0)) := fun v => by
  rw [Below.heap_setCell _ _ _ _ (by show w.heap.size ≠ rb; omega), b13.block _ (lt_hp (unhide HH).2.2)]
  exact (unhide HH).2.2
 have FIN : Hid (∀ v q0 q1 q2 q3, TokSl rb w3 v l → Rd rb e (((((w3.setCell ⟨rb, 0, none⟩ v).setCell ⟨w.heap.size, 0, none⟩ q0).setCell ⟨w.heap.size, 1, none⟩ q1).setCell ⟨w.heap.size, 2, none⟩ q2).setCell ⟨w.heap.size, 3, none⟩ q3) l it dp ∧ Kp rb w (((((w3.setCell ⟨rb, 0, none⟩ v).setCell ⟨w.heap.size, 0, none⟩ q0).setCell ⟨w.heap.size, 1, none⟩ q1).setCell ⟨w.heap.size, 2, none⟩ q2).setCell ⟨w.heap.size, 3, none⟩ q3)) := fun v q0 q1 q2 q3 hv => by
  have hs : ∀ k, k ≠ w.heap.size → (((((w3.setCell ⟨rb, 0, none⟩ v).setCell ⟨w.heap.size, 0, none⟩ q0).setCell ⟨w.heap.size, 1, none⟩ q1).setCell ⟨w.heap.size, 2, none⟩ q2).setCell ⟨w.heap.size, 3, none⟩ q3).heap[k]? = (w3.setCell ⟨rb, 0, none⟩ v).heap[k]? := fun k hk => by
   rw [Below.heap_setCell _ _ _ _ hk, Below.heap_setCell _ _ _ _ hk, Below.heap_setCell _ _ _ _ hk, Below.heap_setCell _ _ _ _ hk]
  have bb : Below w.heap.size w w3 := (unhide HH).2.1.trans (b13.mono (unhide HH).2.1.size)
  have kk := (((((Below.refl 0 w3).setCell (p := ⟨rb, 0, none⟩) (Nat.zero_le _) v).setCell (p := ⟨w.heap.size, 0, none⟩) (Nat.zero_le _) q0).setCell (p := ⟨w.heap.size, 1, none⟩) (Nat.zero_le _) q1).setCell (p := ⟨w.heap.size, 2, none⟩) (Nat.zero_le _) q2).setCell (p := ⟨w.heap.size, 3, none⟩) (Nat.zero_le _) q3
  have K : Kp rb w (((((w3.setCell ⟨rb, 0, none⟩ v).setCell ⟨w.heap.size, 0, none⟩ q0).setCell ⟨w.heap.size, 1, none⟩ q1).setCell ⟨w.heap.size, 2, none⟩ q2).setCell ⟨w.heap.size, 3, none⟩ q3) :=
   ⟨kk.os.trans bb.os, kk.tape.trans bb.tape, kk.output.trans bb.output, Nat.le_trans bb.size kk.size, fun k hk hn => by rw [hs k (by omega), Below.heap_setCell _ _ _ _ hn]; exact bb.block k hk⟩
  refine ⟨⟨⟨v, ?_, ?_⟩, fun x hx => h3.num x (List.mem_cons_of_mem _ hx), by have := h3.len; rw [List.length_cons] at this; omega, h3.end_⟩, K⟩
  · rw [hs rb (by omega)]; exact (set_hp hbx 0 v).trans rfl
  ·
   obtain ⟨a, cp, e1, e2, e3, e4⟩ := hv
   refine ⟨a, cp, e1, e2, e3, fun j x hx => ?_⟩
   obtain ⟨b', o', g1, g2, g3⟩ := e4 j x hx
   refine ⟨b', o', g1, g2, g3.same ?_⟩
   rw [hs b' (by omega), Below.heap_setCell _ _ _ _ (by show b' ≠ rb; omega)]
 have SL : Hid (∀ (cp : Nat) (sa : Option Addr), l.length ≤ cp → cp ≤ maxLen → (0 < l.length → sa = some ⟨b, o + 4, none⟩) → TokSl rb w3 (.slice sa l.length cp) l) := fun cp sa g1 g2 g3 => by
  refine ⟨sa, cp, rfl, g1, g2, fun j x hx => ?_⟩
  have hj : j < l.length := (List.getElem?_eq_some_iff.1 hx).1
  obtain ⟨b', o', g1', g2', g3'⟩ := ht (j + 1) x (by simpa using hx)
  simp only [Option.some.injEq, Addr.mk.injEq] at g1'
  obtain ⟨rfl, rfl, _⟩ := g1'
  exact ⟨b, o + 4, g3 (by omega), hb, by rw [show o + 4 + j * 4 = o + (j + 1) * 4 by omega]; exact g3'⟩
 have HX := hide (And.intro X0 X1)
 have hl : l.length ≤ 65536 := by have := h3.len; rw [List.length_cons] at this; omega
 subst hw3
 clear b2 b3 n3 b13 h3 hbx ht hT X0 X1
 by_cases hcap : 1 < cap
 case pos =>
  have k1 : ¬ (cap - 1 = 0) := by omega
  have k2 : ¬ (cap = 1) := by omega
  have k3 : 1 ≤ cap := by omega
  have Y := (unhide HX).2 (.slice (some ⟨b, o + 4, none⟩) l.length (cap - 1))
  have y0 := (cell_hp Y 0).trans (show _ = some (.int .i64 0) from rfl)
  have y1 := (cell_hp Y 1).trans (show _ = some (.string ⟨#[]⟩) from rfl)
  have y2 := (cell_hp Y 2).trans (show _ = some (.int .i64 0) from rfl)
  have y3 := (cell_hp Y 3).trans (show _ = some (.int .i64 0) from rfl)
  have yf : ∀ o', ((w2.alloc (.cells #[.int .i64 t.kind, str t.text, .int .i64 t.num, .int .i64 (t.at_ : Int)] 43)).setCell ⟨rb, 0, none⟩ (.slice (some ⟨b, o + 4, none⟩) l.length (cap - 1))).frozen? ⟨w.heap.size, o', none⟩ = false := fun o' => by simp [World.frozen?, Y]
  clear Y
  go_wp2_with fail
  refine bodyPost_ret (v := tokV t) (by simp [results, Tryz.results150, go_sem, y0, y1, y2, y3]) rfl ?_
  exact ⟨rfl, unhide FIN _ _ _ _ _ (unhide SL (cap - 1) _ (by omega) (by omega) (fun _ => rfl))⟩
 case neg =>
  obtain rfl : l = [] := List.length_eq_zero_iff.1 (by omega)
  obtain rfl : cap = 1 := by simp at hc1; omega
  have Y := (unhide HX).2 (.slice (some ⟨b, o, none⟩) 0 0)
  have y0 := (cell_hp Y 0).trans (show _ = some (.int .i64 0) from rfl)
  have y1 := (cell_hp Y 1).trans (show _ = some (.string ⟨#[]⟩) from rfl)
  have y2 := (cell_hp Y 2).trans (show _ = some (.int .i64 0) from rfl)
  have y3 := (cell_hp Y 3).trans (show _ = some (.int .i64 0) from rfl)
  have yf : ∀ o', ((w2.alloc (.cells #[.int .i64 t.kind, str t.text, .int .i64 t.num, .int .i64 (t.at_ : Int)] 43)).setCell ⟨rb, 0, none⟩ (.slice (some ⟨b, o, none⟩) 0 0)).frozen? ⟨w.heap.size, o', none⟩ = false := fun o' => by simp [World.frozen?, Y]
  clear Y
  go_wp2_with fail
  refine bodyPost_ret (v := tokV t) (by simp [results, Tryz.results150, go_sem, y0, y1, y2, y3]) rfl ?_
  exact ⟨rfl, unhide FIN _ _ _ _ _ (unhide SL 0 _ (Nat.le_refl _) (Nat.zero_le _) (fun h => absurd h (Nat.lt_irrefl 0)))⟩
/-- What a wrong place carries out. -/
abbrev stopV (why at_ : Int) : Value := .iface 134 (.agg #[.int .i64 why, .int .i64 at_])
/-- What a reading answers, in memory. -/
def Ans {α : Type} (rb e dp : Nat) (w : World) (VA : World → Value → α → Prop) (r : Rs α) (en : Ending) (w' : World) : Prop := match r with
 | .bad why at_ _ => en = .panicked [{ v := stopV why at_, recovered := false }] ∧ Kp rb w w'
 | .ok x l i => ∃ v, en = .returned v ∧ VA w' v x ∧ Rd rb e w' l i dp ∧ Kp rb w w'

set_option maxRecDepth 100000 in
set_option maxHeartbeats 4000000 in
theorem refuse_any {rb e : Nat} {w : World} {l : List Tok} {it dp : Nat} (h : Rd rb e w l it dp) (why : Int) :
  Calls Tryz.prog 132 #[.pointer (some ⟨rb, 0, none⟩), .int .i64 why] w fun en w' => en = .panicked [{ v := stopV why (ahd e 0 l).at_, recovered := false }] ∧ Below w.heap.size w w' := by
 have ha := ahead_any h 0
 clear h
 generalize ahd e 0 l = t at ha
 unfold tokV at ha
 go_enter Tryz.func132, Tryz.ntmps132
 go_wp2_with fail
 refine ha.mono ?_
 clear ha
 rintro en w2 ⟨rfl, b2⟩
 have B2 := hide b2
 clear b2
 go_wp2_with fail
 rename_i hK
 refine hK _ _ ?_
 go_wp2_with fail
 exact ⟨rfl, rfl, unhide B2⟩

set_option maxRecDepth 100000 in
set_option maxHeartbeats 4000000 in
theorem sign_any {rb e : Nat} {w : World} {l : List Tok} {it dp : Nat} (h : Rd rb e w l it dp) :
  Calls Tryz.prog 133 #[.pointer (some ⟨rb, 0, none⟩)] w fun en w' => en = .returned (str (sgn e l)) ∧ Below w.heap.size w w' := by
 have ha := ahead_any h 0
 have hS := hide (show sgn e l = if (ahd e 0 l).kind = 4 then (ahd e 0 l).text else [] from rfl)
 clear h
 generalize ahd e 0 l = t at ha hS
 by_cases hk : t.kind = 4
 ·
  have hk2 : (t.kind == 4) = true := by simpa using hk
  have HK := hide hk
  clear hk
  go_enter Tryz.func133, Tryz.ntmps133
  go_wp2_with fail
  refine ha.mono ?_
  clear ha
  rintro en w2 ⟨rfl, b2⟩
  have B2 := hide b2
  clear b2
  go_wp2_with fail
  go_ret
  exact ⟨by rw [unhide hS, if_pos (unhide HK)]; rfl, (unhide B2).alloc (unhide B2).size _⟩
 ·
  have hk2 : (t.kind == 4) = false := by simpa using hk
  have HK := hide hk
  clear hk
  go_enter Tryz.func133, Tryz.ntmps133
  go_wp2_with fail
  refine ha.mono ?_
  clear ha
  rintro en w2 ⟨rfl, b2⟩
  have B2 := hide b2
  clear b2
  go_wp2_with fail
  go_ret
  exact ⟨by rw [unhide hS, if_neg (unhide HK)]; rfl, (unhide B2).alloc (unhide B2).size _⟩
end Go.Proofs.YtdjehbdpcdikkaaGreatDoor

namespace Go.Proofs.YtdjehbdpcdikkaaGreatDoor
open Go.RowKit

theorem bytes_eq {a b : Txt} : ((⟨a.toArray⟩ : ByteArray) = ⟨b.toArray⟩) ↔ a = b := ⟨fun h => by have := congrArg (fun x => x.data.toList) h; simpa using this, fun h => by rw [h]⟩
/-- The next token is there, and what it is. -/
theorem sgn_cons {e : Nat} {l : List Tok} {s : Txt} (h : sgn e l = s) (hs : s ≠ []) : ∃ t l', l = t :: l' ∧ t.kind = 4 ∧ t.text = s := by
 cases l with
 | nil =>
  simp [sgn, ahd] at h
  exact absurd h.symm (fun e => hs (by simpa using e))
 | cons t l' =>
  refine ⟨t, l', rfl, ?_⟩
  unfold sgn at h
  split at h
  · next hk => exact ⟨hk, h⟩
  · exact absurd h.symm hs
theorem ahd_kind {e : Nat} {l : List Tok} {k : Int} (h : (ahd e 0 l).kind = k) (hk : k ≠ 0) : ∃ t l', l = t :: l' ∧ t.kind = k := by
 cases l with
 | nil => exact absurd h (fun e => hk (by simpa [ahd] using e.symm))
 | cons t l' => exact ⟨t, l', rfl, h⟩

set_option maxRecDepth 100000 in
set_option maxHeartbeats 4000000 in
theorem skip_any {rb e : Nat} {w : World} {l : List Tok} {it dp : Nat} (h : Rd rb e w l it dp) (s : Txt) (hs : s ≠ []) :
  Calls Tryz.prog 160 #[.pointer (some ⟨rb, 0, none⟩), str s] w fun en w' => en = .returned (.bool (decide (sgn e l = s))) ∧ Rd rb e w' (if sgn e l = s then l.drop 1 else l) it dp ∧ Kp rb w w' := by
 have hg := sign_any h
 by_cases hS : sgn e l = s
 ·
  obtain ⟨t, l', rfl, _⟩ := sgn_cons hS hs
  have HT : Hid (∀ v, Below w.heap.size w v → Calls Tryz.prog 150 #[.pointer (some ⟨rb, 0, none⟩)] v fun en w' => en = .returned (tokV t) ∧ Rd rb e w' l' it dp ∧ Kp rb v w') := fun v hv => take_any (h.later hv)
  rw [hS] at hg
  rw [if_pos hS, decide_eq_true hS]
  clear h hS
  go_enter Tryz.func160, Tryz.ntmps160
  go_wp2_with fail
  refine hg.mono ?_
  clear hg
  rintro en w2 ⟨rfl, b2⟩
  have ht := unhide HT w2 b2
  have B2 := hide b2
  clear b2 HT
  go_wp2_with fail
  refine ht.mono ?_
  clear ht
  rintro en w3 ⟨rfl, hR3, k3⟩
  have H3 := hide (And.intro hR3 ((Kp.of_below (unhide B2)).trans k3))
  clear hR3 k3
  go_wp2_with fail
  go_ret
  exact ⟨rfl, unhide H3⟩
 ·
  rw [if_neg hS, decide_eq_false hS]
  have hne : (sgn e l == s) = false := by simpa using hS
  have HH := hide h
  generalize sgn e l = g at hg hne
  clear h hS
  go_enter Tryz.func160, Tryz.ntmps160
  go_wp2_with fail
  refine hg.mono ?_
  clear hg
  rintro en w2 ⟨rfl, b2⟩
  have B2 := hide b2
  clear b2
  go_wp2_with fail
  go_ret
  exact ⟨rfl, (unhide HH).later (unhide B2), Kp.of_below (unhide B2)⟩

set_option maxRecDepth 100000 in
set_option maxHeartbeats 4000000 in
theorem want_any {rb e : Nat} {w : World} {l : List Tok} {it dp : Nat} (h : Rd rb e w l it dp) (s : Txt) (hs : s ≠ []) :
  Calls Tryz.prog 162 #[.pointer (some ⟨rb, 0, none⟩), str s] w fun en w' => Ans rb e dp w (fun _ v _ => v = .tuple #[]) (want e s l it) en w' := by
 have hk := skip_any h s hs
 by_cases hS : sgn e l = s
 ·
  have E : want e s l it = .ok () (l.drop 1) it := if_pos hS
  rw [E]
  rw [if_pos hS, decide_eq_true hS] at hk
  clear h hS E
  go_enter Tryz.func162, Tryz.ntmps162
  go_wp2_with fail
  refine hk.mono ?_
  clear hk
  rintro en w2 ⟨rfl, hR, k2⟩
  have H2 := hide (And.intro hR k2)
  clear hR k2
  go_wp2_with fail
  go_end0
  exact ⟨_, rfl, rfl, unhide H2⟩
 ·
  have E : want e s l it = .bad 10 (ahd e 0 l).at_ l := if_neg hS
  rw [E]
  rw [if_neg hS, decide_eq_false hS] at hk
  clear h hS E
  go_enter Tryz.func162, Tryz.ntmps162
  go_wp2_with fail
  refine hk.mono ?_
  clear hk
  rintro en w2 ⟨rfl, hR, k2⟩
  have hr := refuse_any hR 10
  have H2 := hide k2
  clear hR k2
  go_wp2_with fail
  refine hr.mono ?_
  clear hr
  rintro en w3 ⟨rfl, b3⟩
  have H3 := hide ((unhide H2).trans (Kp.of_below b3))
  clear b3
  go_wp2_with fail
  exact ⟨rfl, rfl, unhide H3⟩

set_option maxRecDepth 100000 in
set_option maxHeartbeats 4000000 in
theorem name_any {rb e : Nat} {w : World} {l : List Tok} {it dp : Nat} (h : Rd rb e w l it dp) :
  Calls Tryz.prog 153 #[.pointer (some ⟨rb, 0, none⟩)] w fun en w' => Ans rb e dp w (fun _ v x => v = str x) (nmQ e l it) en w' := by
 have ha := ahead_any h 0
 unfold tokV at ha
 by_cases hS : (ahd e 0 l).kind = 1
 ·
  have E : nmQ e l it = .ok (ahd e 0 l).text (l.drop 1) it := if_pos hS
  rw [E]
  obtain ⟨t, l', rfl, hk⟩ := ahd_kind hS (by decide)
  have HT : Hid (∀ v, Below w.heap.size w v → Calls Tryz.prog 150 #[.pointer (some ⟨rb, 0, none⟩)] v fun en w' => en = .returned (.agg #[.int .i64 t.kind, str t.text, .int .i64 t.num, .int .i64 (t.at_ : Int)]) ∧ Rd rb e w' l' it dp ∧ Kp rb v w') := fun v hv => take_any (h.later hv)
  have e0 : ahd e 0 (t :: l') = t := rfl
  rw [e0] at ha
  have hk2 : (t.kind != 1) = false := by simpa using hk
  rw [e0]
  clear h hS E hk e0
  go_enter Tryz.func153, Tryz.ntmps153
  go_wp2_with fail
  refine ha.mono ?_
  clear ha
  rintro en w2 ⟨rfl, b2⟩
  have ht := unhide HT w2 b2
  have B2 := hide b2
  clear b2 HT
  go_wp2_with fail
  rename_i hK
  refine hK _ _ ?_
  clear hK
  go_wp2_with fail
  refine ht.mono ?_
  clear ht
  rintro en w3 ⟨rfl, hR3, k3⟩
  have H3 := hide (And.intro hR3 ((Kp.of_below (unhide B2)).trans k3))
  clear hR3 k3
  go_wp2_with fail
  rename_i hK
  refine hK _ _ ?_
  clear hK
  go_wp2_with fail
  go_ret
  exact ⟨_, rfl, rfl, unhide H3⟩
 ·
  have E : nmQ e l it = .bad 10 (ahd e 0 l).at_ l := if_neg hS
  rw [E]
  have HR : Hid (∀ v, Below w.heap.size w v → Calls Tryz.prog 132 #[.pointer (some ⟨rb, 0, none⟩), .int .i64 10] v fun en w' => en = .panicked [{ v := stopV 10 (ahd e 0 l).at_, recovered := false }] ∧ Below v.heap.size v w') := fun v hv => refuse_any (h.later hv) 10
  generalize ahd e 0 l = t at ha hS HR
  have hk2 : (t.kind != 1) = true := by simpa using hS
  clear h hS E
  go_enter Tryz.func153, Tryz.ntmps153
  go_wp2_with fail
  refine ha.mono ?_
  clear ha
  rintro en w2 ⟨rfl, b2⟩
  have hr := unhide HR w2 b2
  have B2 := hide b2
  clear b2 HR
  go_wp2_with fail
  rename_i hK
  refine hK _ _ ?_
  clear hK
  go_wp2_with fail
  refine hr.mono ?_
  clear hr
  rintro en w3 ⟨rfl, b3⟩
  have H3 := hide ((unhide B2).trans (b3.mono (unhide B2).size))
  clear b3
  go_wp2_with fail
  exact ⟨rfl, rfl, Kp.of_below (unhide H3)⟩
end Go.Proofs.YtdjehbdpcdikkaaGreatDoor
