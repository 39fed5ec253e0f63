/- Walk of the document's Tokens. -/
import Derived.Test.YtbekkpfbjafagaaDoorLxv
import Derived.Test.YtbekkpfbjafagaaDoorLxw
import Derived.Test.YtbekkpfbjafagaaDoorLxy
import Derived.Test.YtbekkpfbjafagaaDoorRisesw
namespace Go.Proofs.YtbekkpfbjafagaaDoor
open Go.RowKit

structure RkInv (s : ByteArray) (w : World) (v : Value) (wr : World) (toks : List Tok) (m : Nat) : Prop where
  own : wr.ownsRow (w.heap.size + 1) 32 4 v toks.length (tokCells toks)
  bel : Below w.heap.size w wr
  rb : wr.heap[w.heap.size]? = some fltZ
  ms : m ≤ s.size
  tl : toks.length ≤ m
  sc : scan 0 s.data.toList = (scan m (s.data.toList.drop m)).app toks
def RkRel (s : ByteArray) (w : World) (v i : Value) (wr : World) : Prop := ∃ (toks : List Tok) (m : Nat), i = .int .i64 (m : Int) ∧ Hid (RkInv s w v wr toks m)
/-- Behind the switch: both boxes. -/
structure Aft (w wr w8 : World) (v : Value) (toks : List Tok) (kd : Int) (tx : ByteArray) (nm a why fa : Int) : Prop where
  ft : w8.heap[wr.heap.size]? = some (.cells #[.int .i64 kd, .string tx, .int .i64 nm, .int .i64 a] 32)
  ff : w8.heap[wr.heap.size + 1]? = some (.cells #[.int .i64 why, .int .i64 fa] 25)
  fr : w8.heap[w.heap.size]? = some fltZ
  bel : Below w.heap.size w w8
  own : w8.ownsRow (w.heap.size + 1) 32 4 v toks.length (tokCells toks)
  sz : wr.heap.size + 2 ≤ w8.heap.size
theorem aft0 {s : ByteArray} {w wr w6 : World} {v : Value} {toks : List Tok} {m : Nat} (h : RkInv s w v wr toks m) (b6 : Below (wr.heap.size + 2) ((wr.alloc tokZ).alloc fltZ) w6) : Aft w wr w6 v toks 0 ⟨#[]⟩ 0 0 0 0 := by
  have hsz := h.bel.size
  have hrb : w.heap.size < wr.heap.size := (Array.getElem?_eq_some_iff.1 h.rb).1
  have s6 := b6.size
  simp at s6
  refine ⟨?_, ?_, ?_, ?_, ?_, by omega⟩
  · rw [b6.block _ (by omega), Lib.alloc_old (wr.alloc tokZ) _ _ (by simp)]; exact heap_alloc_new wr _
  · rw [b6.block _ (by omega)]
    have := heap_alloc_new (wr.alloc tokZ) fltZ
    rwa [show (wr.alloc tokZ).heap.size = wr.heap.size + 1 by simp] at this
  · rw [b6.block _ (by omega), Lib.alloc_old (wr.alloc tokZ) _ _ (by simp; omega), Lib.alloc_old wr _ _ hrb]; exact h.rb
  · exact ((h.bel.alloc hsz _).alloc (by simp; omega) _).trans (b6.mono (by omega))
  · refine own_keep h.own fun g cur hg => ?_
    have hlt : g < wr.heap.size := (Array.getElem?_eq_some_iff.1 hg).1
    rw [b6.block _ (by omega), Lib.alloc_old (wr.alloc tokZ) _ _ (by simp; omega), Lib.alloc_old wr _ _ hlt]
theorem own_lt {wr : World} {B : Nat} {v : Value} {n : Nat} {xs : List Value} (h : wr.ownsRow B 32 4 v n xs) {w8 : World} (h8 : w8.ownsRow B 32 4 v n xs) (hk : ∀ g, g < wr.heap.size → ∀ w9 : World, (∀ k, k < wr.heap.size → w9.heap[k]? = w8.heap[k]?) → w9.heap[g]? = w8.heap[g]?) (w9 : World) (h9 : ∀ k, k < wr.heap.size → w9.heap[k]? = w8.heap[k]?) : w9.ownsRow B 32 4 v n xs := by
  refine ⟨h8.1, ?_⟩
  rcases h8.2 with e | ⟨g, cap, cur, hv, hg, hh, h4, h5, h6, h7⟩
  · exact .inl e
  · refine .inr ⟨g, cap, cur, hv, hg, ?_, h4, h5, h6, h7⟩
    have hlt : g < wr.heap.size := by
      rcases h.2 with ⟨e, _⟩ | ⟨g', cap', cur', hv', _, hh', _⟩
      · rw [e] at hv; cases hv
      · rw [hv'] at hv
        injection hv with e1 _ _
        injection e1 with e1
        injection e1 with e1 _ _
        subst e1
        exact (Array.getElem?_eq_some_iff.1 hh').1
    rw [hk g hlt w9 h9]; exact hh
/-- A token is stored into its box. -/
theorem aft_tok {w wr w6 : World} {v : Value} {toks : List Tok} {kd0 nm0 a0 why fa : Int} {tx0 : ByteArray} (h0 : wr.ownsRow (w.heap.size + 1) 32 4 v toks.length (tokCells toks)) (hb : w.heap.size < wr.heap.size) (h : Aft w wr w6 v toks kd0 tx0 nm0 a0 why fa) (kd nm a : Int) (tx : ByteArray) :
    ∃ w7, (tkStore (.pointer (some ⟨wr.heap.size, 0, none⟩)) (.agg #[.int .i64 kd, .string tx, .int .i64 nm, .int .i64 a])).run Tryd.prog w6 = .ok () w7 ∧ Aft w wr w7 v toks kd tx nm a why fa := by
  have n1 : ∀ k, k ≠ wr.heap.size → ((((w6.setCell ⟨wr.heap.size, 0, none⟩ (.int .i64 kd)).setCell ⟨wr.heap.size, 1, none⟩ (.string tx)).setCell ⟨wr.heap.size, 2, none⟩ (.int .i64 nm)).setCell ⟨wr.heap.size, 3, none⟩ (.int .i64 a)).heap[k]? = w6.heap[k]? := fun k hk => by
    rw [heap_setCell_other _ _ _ _ hk, heap_setCell_other _ _ _ _ hk, heap_setCell_other _ _ _ _ hk, heap_setCell_other _ _ _ _ hk]
  refine ⟨_, tk_store h.ft kd nm a tx, heap_setCell_same _ _ 3 _ _ _ (heap_setCell_same _ _ 2 _ _ _ (heap_setCell_same _ _ 1 _ _ _ (heap_setCell_same _ _ 0 _ _ _ h.ft))), by rw [n1 _ (by omega)]; exact h.ff, by rw [n1 _ (by omega)]; exact h.fr, ?_, ?_, ?_⟩
  · exact (((h.bel.setCell (p := ⟨wr.heap.size, 0, none⟩) (by show w.heap.size ≤ wr.heap.size; omega) _).setCell (p := ⟨wr.heap.size, 1, none⟩) (by show w.heap.size ≤ wr.heap.size; omega) _).setCell (p := ⟨wr.heap.size, 2, none⟩) (by show w.heap.size ≤ wr.heap.size; omega) _).setCell (p := ⟨wr.heap.size, 3, none⟩) (by show w.heap.size ≤ wr.heap.size; omega) _
  · exact own_lt h0 h.own (fun g hg w9 h9 => h9 g hg) _ (fun k hk => n1 k (by omega))
  · simp; exact h.sz
/-- A fault is stored into its box. -/
theorem aft_flt {w wr w6 : World} {v : Value} {toks : List Tok} {kd nm a why0 fa0 : Int} {tx : ByteArray} (h0 : wr.ownsRow (w.heap.size + 1) 32 4 v toks.length (tokCells toks)) (hb : w.heap.size < wr.heap.size) (h : Aft w wr w6 v toks kd tx nm a why0 fa0) (why fa : Int) :
    ∃ w7, (flStore (.pointer (some ⟨wr.heap.size + 1, 0, none⟩)) (.agg #[.int .i64 why, .int .i64 fa])).run Tryd.prog w6 = .ok () w7 ∧ Aft w wr w7 v toks kd tx nm a why fa := by
  have n1 : ∀ k, k ≠ wr.heap.size + 1 → ((w6.setCell ⟨wr.heap.size + 1, 0, none⟩ (.int .i64 why)).setCell ⟨wr.heap.size + 1, 1, none⟩ (.int .i64 fa)).heap[k]? = w6.heap[k]? := fun k hk => by
    rw [heap_setCell_other _ _ _ _ hk, heap_setCell_other _ _ _ _ hk]
  refine ⟨_, fl_store h.ff why fa, by rw [n1 _ (by omega)]; exact h.ft, two_flt _ _ _ _ _ _ h.ff, by rw [n1 _ (by omega)]; exact h.fr, ?_, ?_, ?_⟩
  · exact (h.bel.setCell (p := ⟨wr.heap.size + 1, 0, none⟩) (by show w.heap.size ≤ wr.heap.size + 1; omega) _).setCell (p := ⟨wr.heap.size + 1, 1, none⟩) (by show w.heap.size ≤ wr.heap.size + 1; omega) _
  · exact own_lt h0 h.own (fun g hg w9 h9 => h9 g hg) _ (fun k hk => n1 k (by omega))
  · simp; exact h.sz
theorem aft_later {w wr w6 w7 : World} {v : Value} {toks : List Tok} {kd nm a why fa : Int} {tx : ByteArray} (hb : w.heap.size < wr.heap.size) (h0 : wr.ownsRow (w.heap.size + 1) 32 4 v toks.length (tokCells toks)) (h : Aft w wr w6 v toks kd tx nm a why fa) (b : Below w6.heap.size w6 w7) : Aft w wr w7 v toks kd tx nm a why fa := by
  have hz := h.sz
  refine ⟨by rw [b.block _ (by omega)]; exact h.ft, by rw [b.block _ (by omega)]; exact h.ff, by rw [b.block _ (by omega)]; exact h.fr, h.bel.trans (b.mono h.bel.size), ?_, by have := b.size; omega⟩
  exact own_lt h0 h.own (fun g hg w9 h9 => h9 g hg) _ (fun k hk => b.block k (by omega))
theorem app_nil (o : Out) : o.app [] = o := by cases o <;> rfl

/-- Behind a token that came: the next round's head. -/
theorem rk_next {s : ByteArray} {w wr w8 w9 : World} {v v' : Value} {toks : List Tok} {m n : Nat} {kd nm : Int} {tx : Txt} (h : RkInv s w v wr toks m) (ha : Aft w wr w8 v toks kd ⟨tx.toArray⟩ nm (m : Int) 0 0) (hg : gapAt (s.data.toList.drop m) = .none) (ht : tokAt (s.data.toList.drop m) = .tok kd tx nm n)
    (hown : w9.ownsRow (w.heap.size + 1) 32 4 v' (toks.length + 1) (tokCells toks ++ [.int .i64 kd, .string ⟨tx.toArray⟩, .int .i64 nm, .int .i64 (m : Int)]))
    (hgrow : (w8.alloc (.cells #[.int .i64 kd, .string ⟨tx.toArray⟩, .int .i64 nm, .int .i64 (m : Int)] 32)).grownBy w9 v.ownBlock) :
    RkInv s w v' w9 (toks ++ [⟨kd, tx, nm, m⟩]) (m + n) := by
  have hp := tok_pos ht
  rw [len_drop] at hp
  have hms := h.ms
  have hbs := ha.bel.size
  have hrb : w.heap.size < w8.heap.size := (Array.getElem?_eq_some_iff.1 ha.fr).1
  refine ⟨?_, ?_, ?_, by omega, by have := h.tl; rw [List.length_append]; simp; omega, ?_⟩
  · have e : tokCells (toks ++ [⟨kd, tx, nm, m⟩]) = tokCells toks ++ [.int .i64 kd, .string ⟨tx.toArray⟩, .int .i64 nm, .int .i64 (m : Int)] := tokCells_snoc _ _
    rw [e, List.length_append]; exact hown
  · exact (ha.bel.alloc hbs _).grown hgrow (by simp; omega) (fun g hg => by have := (ha.own.lt g hg).1; omega)
  · rw [hgrow.block _ (by simp; omega) (fun e => by have := (ha.own.lt _ e.symm).1; omega), Lib.alloc_old _ _ _ hrb]
    exact ha.fr
  · rw [h.sc, scan_tok hg ht, app_cons, List.drop_drop]

set_option maxRecDepth 100000 in
set_option maxHeartbeats 4000000 in
theorem rtokens_long (s : ByteArray) (hl : 65536 < s.size) (hs : s.size ≤ 140737488355328) (w : World) :
    Calls Tryd.prog 10 #[.string s] w fun e w' => TokAns (lexP s.data.toList) w w' e := by
  have H := hide (show lexP s.data.toList = .bad 2 0 by unfold lexP; rw [← size_len, if_pos hl])
  go_enter Tryd.func10, Tryd.ntmps10
  go_wp2_with fail
  refine (fault_any _ _ _).mono ?_
  rintro e w2 ⟨rfl, b2⟩
  have b2' : Below (w.heap.size + 1) (w.alloc fltZ) w2 := by simpa using b2
  have hb : w2.heap[w.heap.size]? = some fltZ := by rw [b2'.block _ (by omega)]; exact heap_alloc_new w _
  have y0 : w2.cell? ⟨w.heap.size, 0, none⟩ = some (.int .i64 0) := by rw [Lib.cell_of_heap hb]; rfl
  have y1 : w2.cell? ⟨w.heap.size, 1, none⟩ = some (.int .i64 0) := by rw [Lib.cell_of_heap hb]; rfl
  have fy : ∀ o, w2.frozen? ⟨w.heap.size, o, none⟩ = false := fun o => Lib.frozen_of_heap hb o
  have bw : Below w.heap.size w w2 := ((Below.refl w.heap.size w).alloc (Nat.le_refl _) _).trans (b2'.mono (by omega))
  clear b2 b2' hb
  go_wp2_with fail
  refine bodyPost_ret (v := .tuple #[.slice none 0 0, .agg #[.int .i64 2, .int .i64 0]]) (by simp [results, Tryd.results10, go_sem, y0, y1]) rfl ?_
  rw [unhide H]
  exact ⟨_, rfl, World.ownsRow_nil _ _ _ _, (bw.setCell (p := ⟨w.heap.size, 0, none⟩) (Nat.le_refl _) _).setCell (p := ⟨w.heap.size, 1, none⟩) (Nat.le_refl _) _⟩
end Go.Proofs.YtbekkpfbjafagaaDoor
