/- Walks of how two values stand: term.order, whole; Order; Same. -/
import Derived.Test.YtbfkcfhkccicoaaDoorOrdB
import Derived.Deep.RegionWith
namespace Go.Proofs.YtbfkcfhkccicoaaDoor
open Go.RowKit

/-- A region that leaves its order open: its head only reads, its tail goes in the order of the text. -/
theorem region_tail {P : Program} {id : Nat} {Q : Exit → Act → World → Prop} {a : Act} {w : World} {l : List Oper} (n : Nat) (hm : P.follows .mixedOrders = true) (hB : Region.lexTailB .any l.toArray n = true)
    (h : wpStill P l.toArray w.drew (fun a' => wpList P l.toArray Q (l.drop n) a' w.drew) (l.take n) a) : (Code.region id l.toArray true).wp P Q a w :=
  wp_region_still_tail n hm hB h

set_option maxRecDepth 100000 in
set_option maxHeartbeats 4000000 in
theorem order_any : ∀ a : V, OrdC a := by
  refine V.ind fun a ih b B w ha hb hB => ?_
  have hla := ha.flat.l
  have hlb := hb.flat.l
  have IH := hide ih
  clear ih
  go_enter Tryd.func29, Tryd.ntmps29
  go_wp2_with fail
  refine region_tail 22 (by kernel_rfl) (by kernel_rfl) ?_
  simp only [List.take_succ_cons, List.take_zero, List.drop_succ_cons, List.drop_zero]
  repeat still_step
  still_call (cmpI_any _ _ _)
  repeat still_step
  still_call (cmpI_any _ _ _)
  repeat still_step
  still_call (cmpS_any _ _ _)
  repeat still_step
  still_call (cmpI_any _ _ _)
  refine wpStill_nil ?_
  go_wp2_with fail
  have b1 : Below w.heap.size w ((((w.alloc a.obj).alloc b.obj).alloc (.cells #[.int .i64 (cmpI a.kind b.kind), .int .i64 (cmpI a.num b.num), .int .i64 (cmpS a.str b.str), .int .i64 (cmpI (a.len : Int) (b.len : Int))] 3)).drew) := (((below_box w _).alloc (by simp) _).alloc (by simp; omega) _).drew
  have hcell : ∀ j, j < 4 → ((((w.alloc a.obj).alloc b.obj).alloc (.cells #[.int .i64 (cmpI a.kind b.kind), .int .i64 (cmpI a.num b.num), .int .i64 (cmpS a.str b.str), .int .i64 (cmpI (a.len : Int) (b.len : Int))] 3)).drew).cell? ⟨w.heap.size + 1 + 1, j, .none⟩ = some (.int .i64 (four a b j)) := by
    have hn := World.alloc_heap_new ((w.alloc a.obj).alloc b.obj) (.cells #[.int .i64 (cmpI a.kind b.kind), .int .i64 (cmpI a.num b.num), .int .i64 (cmpS a.str b.str), .int .i64 (cmpI (a.len : Int) (b.len : Int))] 3)
    rw [show ((w.alloc a.obj).alloc b.obj).heap.size = w.heap.size + 1 + 1 by simp] at hn
    intro j hj
    show (((w.alloc a.obj).alloc b.obj).alloc (.cells #[.int .i64 (cmpI a.kind b.kind), .int .i64 (cmpI a.num b.num), .int .i64 (cmpS a.str b.str), .int .i64 (cmpI (a.len : Int) (b.len : Int))] 3)).cell? ⟨w.heap.size + 1 + 1, j, .none⟩ = _
    simp only [World.cell?]
    rw [hn]
    match j, hj with
    | 0, _ => rfl
    | 1, _ => rfl
    | 2, _ => rfl
    | 3, _ => rfl
  have hbx : CellsAt ((((w.alloc a.obj).alloc b.obj).alloc (.cells #[.int .i64 (cmpI a.kind b.kind), .int .i64 (cmpI a.num b.num), .int .i64 (cmpS a.str b.str), .int .i64 (cmpI (a.len : Int) (b.len : Int))] 3)).drew) w.heap.size 0 a :=
    (boxed w a).below (B := w.heap.size + 1) ((((Below.refl _ _).alloc (by simp) _).alloc (by simp) _).drew) (by omega)
  have hby : CellsAt ((((w.alloc a.obj).alloc b.obj).alloc (.cells #[.int .i64 (cmpI a.kind b.kind), .int .i64 (cmpI a.num b.num), .int .i64 (cmpS a.str b.str), .int .i64 (cmpI (a.len : Int) (b.len : Int))] 3)).drew) (w.heap.size + 1) 0 b := by
    have := boxed (w.alloc a.obj) b
    rw [show (w.alloc a.obj).heap.size = w.heap.size + 1 by simp] at this
    exact this.below (B := w.heap.size + 1 + 1) (((Below.refl _ _).alloc (by simp) _).drew) (by omega)
  refine (or_any (four a b) _ (w.heap.size + 1 + 1) 4 hcell).mono ?_
  rintro e w2 ⟨rfl, hw2⟩
  rw [← hw2] at hbx hby b1
  clear hw2 hcell
  obtain ⟨x0, x1, x2, x3⟩ := hbx.z
  obtain ⟨y0, y1, y2, y3⟩ := hby.z
  clear hbx hby
  have H := hide (V.ord_eq a b)
  by_cases h0 : firstTo (four a b) 4 0 = 0
  · have h1 : (firstTo (four a b) 4 0 != 0) = false := by simp [h0]
    have hl : a.len = b.len := by
      have := (firstTo_zero.1 h0).2 3 (by omega)
      have := cmpI_zero.1 (show cmpI (a.len : Int) (b.len : Int) = 0 from this)
      omega
    have H0 := hide h0
    have HL := hide hl
    clear h0 hl
    go_wp2_with fail
    refine (compareFunc_any a (unhide IH) b B _ (ha.below (b1.mono hB)) (hb.below (b1.mono hB)) (by have := b1.size; omega) (unhide HL)).mono ?_
    rintro e w3 ⟨rfl, b3⟩
    have bw : Below w.heap.size w w3 := b1.trans (b3.mono b1.size)
    clear x0 x1 x2 x3 y0 y1 y2 y3 b3
    go_wp2_with fail
    go_ret
    exact ⟨ret_int (by rw [unhide H, if_pos (unhide H0)]), bw⟩
  · have h1 : (firstTo (four a b) 4 0 != 0) = true := bne_iff_ne.2 h0
    have H0 := hide h0
    clear h0 x0 x1 x2 x3 y0 y1 y2 y3
    go_wp2_with fail
    go_ret
    exact ⟨ret_int (by rw [unhide H, if_neg (unhide H0)]), b1⟩

/-- A world in which nothing that was there has turned. -/
structure Later (w : World) where
  val : World
  h : Below w.heap.size w val

instance (w : World) : Inhabited (Later w) := ⟨⟨w, Below.refl _ w⟩⟩

/-- A region that leaves its order open, whose operations only read and whose calls turn nothing that was there: one walk in the order of the text. -/
theorem region_later {P : Program} {id : Nat} {Q : Exit → Act → World → Prop} {a : Act} {w : World} {l : List Oper} (hm : P.follows .mixedOrders = true) (hB : Region.lexB .any l.toArray = true)
    (h : wpQuiet P l.toArray (fun w' => ∃ i : Later w, w' = i.val) (fun a' => ∀ w', (∃ i : Later w, w' = i.val) → Q .normal a' w') l a) : (Code.region id l.toArray true).wp P Q a w :=
  wp_region_quiet (C := fun w' => ∃ i : Later w, w' = i.val) hm hB ⟨⟨w.drew, (Below.refl _ w).drew⟩, rfl⟩ (by simpa using h)
theorem Calls.later {P : Program} {f : FuncId} {args : Array Value} {w : World} {i : Later w} {v : Value} (h : Calls P f args i.val fun e w' => e = .returned v ∧ Below i.val.heap.size i.val w') :
    Calls P f args i.val fun e w' => e = .returned v ∧ ∃ j : Later w, w' = j.val :=
  h.mono fun _ w' ⟨he, hb⟩ => ⟨he, ⟨w', i.h.trans (hb.mono i.h.size)⟩, rfl⟩

open Go.BigFrame in
set_option maxRecDepth 100000 in
set_option maxHeartbeats 4000000 in
/-- term.Order. -/
theorem ord_any (a b : V) (B : Nat) (w : World) (ha : a.At B w) (hb : b.At B w) (hB : B ≤ w.heap.size) :
    Calls Tryd.prog 18 #[a.val, b.val] w fun e w' => e = .returned (.int .i64 (ordAll a b)) ∧ Below w.heap.size w w' := by
  go_enter Tryd.func18, Tryd.ntmps18
  go_wp2_with fail
  obtain ⟨W, hW⟩ : ∃ W, W = (w.alloc a.obj).alloc b.obj := ⟨_, rfl⟩
  have bW : Below w.heap.size w W := by rw [hW]; exact (below_box w _).alloc (by simp) _
  have hsz : W.heap.size = w.heap.size + 1 + 1 := by rw [hW]; simp
  have hbx : CellsAt W w.heap.size 0 a := by
    rw [hW]; exact (boxed w a).below (B := w.heap.size + 1) ((Below.refl _ _).alloc (by simp) _) (by omega)
  have hby : CellsAt W (w.heap.size + 1) 0 b := by
    have := boxed (w.alloc a.obj) b
    rw [hW]
    rwa [show (w.alloc a.obj).heap.size = w.heap.size + 1 by simp] at this
  rw [← hW]
  clear hW
  have hx : ∀ i : Later W, CellsAt i.val w.heap.size 0 a := fun i => hbx.below i.h (by omega)
  have hy : ∀ i : Later W, CellsAt i.val (w.heap.size + 1) 0 b := fun i => hby.below i.h (by omega)
  have hai : ∀ i : Later W, a.At B i.val := fun i => ha.below ((bW.trans (i.h.mono (by omega))).mono hB)
  have hbi : ∀ i : Later W, b.At B i.val := fun i => hb.below ((bW.trans (i.h.mono (by omega))).mono hB)
  have hsi : ∀ i : Later W, B ≤ i.val.heap.size := fun i => by have := i.h.size; omega
  have x0 := fun i : Later W => (hx i).z.1
  have x1 := fun i : Later W => (hx i).z.2.1
  have x2 := fun i : Later W => (hx i).z.2.2.1
  have x3 := fun i : Later W => (hx i).z.2.2.2
  have y0 := fun i : Later W => (hy i).z.1
  have y1 := fun i : Later W => (hy i).z.2.1
  have y2 := fun i : Later W => (hy i).z.2.2.1
  have y3 := fun i : Later W => (hy i).z.2.2.2
  have HX := hide hx
  have HY := hide hy
  have HAI := hide hai
  have HBI := hide hbi
  have HSI := hide hsi
  have HZ := hide hsz
  clear hx hy hai hbi hsi hbx hby hsz
  refine region_later (by kernel_rfl) (by kernel_rfl) ?_
  repeat (go_big_quiet_step (first
    | (go_at_call_of 22 (V.kind a); exact Calls.later (right_any a B _ (unhide HAI _) (unhide HSI _)))
    | (go_at_call_of 22 (V.kind b); exact Calls.later (right_any b B _ (unhide HBI _) (unhide HSI _)))))
  refine wpQuiet_nil ?_
  intro w2 hw2
  obtain ⟨i, hw3⟩ := hw2
  subst hw3
  have bi : Below w.heap.size w i.val := bW.trans (i.h.mono (by have := unhide HZ; omega))
  have xi0 := x0 i
  have xi1 := x1 i
  have xi2 := x2 i
  have xi3 := x3 i
  have yi0 := y0 i
  have yi1 := y1 i
  have yi2 := y2 i
  have yi3 := y3 i
  have hai := unhide HAI i
  have hbi := unhide HBI i
  have hsi : w.heap.size ≤ i.val.heap.size := bi.size
  clear x0 x1 x2 x3 y0 y1 y2 y3 HAI HBI HSI HX HY HZ bW
  generalize i.val = w2 at *
  cases hra : a.right
  · cases hrb : b.right
    · have HO : Hid (ordAll a b = 0) := by show _ = _; unfold ordAll; rw [hra, hrb]; rfl
      go_wp2_with fail
      go_ret
      exact ⟨ret_int HO.out.symm, bi⟩
    · have HO : Hid (ordAll a b = -1) := by show _ = _; unfold ordAll; rw [hra, hrb]; rfl
      go_wp2_with fail
      go_ret
      exact ⟨ret_int HO.out.symm, bi⟩
  · cases hrb : b.right
    · have HO : Hid (ordAll a b = 1) := by show _ = _; unfold ordAll; rw [hra, hrb]; rfl
      go_wp2_with fail
      go_ret
      exact ⟨ret_int HO.out.symm, bi⟩
    · have HO : Hid (ordAll a b = a.ord b) := by show _ = _; unfold ordAll; rw [hra, hrb]; rfl
      have HSI := hide hsi
      clear hsi
      go_wp2_with fail
      refine (order_any a b B _ hai hbi (by have := unhide HSI; omega)).mono ?_
      rintro e w3 ⟨rfl, b3⟩
      have bw : Below w.heap.size w w3 := bi.trans (b3.mono (unhide HSI))
      clear xi0 xi1 xi2 xi3 yi0 yi1 yi2 yi3 b3
      go_wp2_with fail
      go_ret
      exact ⟨ret_int HO.out.symm, bw⟩

end Go.Proofs.YtbfkcfhkccicoaaDoor
