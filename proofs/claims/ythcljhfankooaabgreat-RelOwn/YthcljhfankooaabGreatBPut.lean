/- Has, Len, New and Insert of a set. -/
import Derived.Test.YthcljhfankooaabGreatBSet
namespace Go.Proofs.YthcljhfankooaabGreat
open Go.RowKit Go.Shelf

theorem set_heap {w : World} {b : Nat} {cur : Array Value} {t : TypeId} {f : Nat × Nat} (h : w.heap[b]? = some (.cells cur t f)) (i : Nat) (v : Value) : (w.setCell ⟨b, i, none⟩ v).heap[b]? = some (.cells (cur.setIfInBounds i v) t f) := by
  obtain ⟨hlt, hk⟩ := Array.getElem?_eq_some_iff.1 h
  show (w.heap.modify b _)[b]? = _
  rw [Array.getElem?_eq_getElem (by rw [Array.size_modify]; exact hlt), Array.getElem_modify_self, hk]
  rfl
/-- What is told of a tuple: whether it fits and is there. -/
def hasA (o x : List Int) (l : List Item) : Bool := fitB o x && hasI x l

set_option maxRecDepth 100000 in
set_option maxHeartbeats 4000000 in
theorem has_set (S : Nat → Prop) (w : World) (sb hb : Nat) (o x : List Int) (l : List Item) (xv : Value) (h : SetAt S w sb hb o l) (hx : Ints w.heap.size w xv x) :
    Calls Tryz.prog 70 #[.pointer (some ⟨sb, 0, none⟩), xv] w fun e w' => e = .returned (.bool (hasA o x l)) ∧ Below w.heap.size w w' := by
  obtain ⟨ov, p, d, hh, hov, hT⟩ := h.held
  obtain ⟨oa, oc, rfl, _⟩ := id hov
  obtain ⟨xa, xc, rfl, _⟩ := id hx
  have hnow := now_any w sb hb _ _ p oa o.length oc l.length rfl rfl h.s0 hh
  have HH : Hid (∀ w1, Below w.heap.size w w1 → fitB o x = true → Calls Tryz.prog 90 #[.pointer p, .slice oa o.length oc, .slice xa x.length xc] w1 fun e w' => e = .returned (.bool (hasI x l)) ∧ Below w1.heap.size w1 w') := fun w1 hb1 hf =>
    nhas_any S _ _ o x h.ok (fitB_true.1 hf) d 15 w1 p l (by omega) ((hov.later hb1).ints) ((hx.below hb1 (Nat.le_refl _)).mono hb1.size) (hT.later hb1) h.rises
  clear hov hx hT hh h
  go_enter Tryz.func70, Tryz.ntmps70
  go_wp2_with fail
  refine hnow.mono ?_
  clear hnow
  rintro e w1 ⟨rfl, hb1⟩
  have hB1 : Below w.heap.size w (w1.alloc (.cells #[.slice oa o.length oc, .pointer p, .int .i64 (l.length : Int)] 102)) := hb1.alloc hb1.size _
  have HB1 := hide hB1
  have hfit := hfits_any (w1.alloc (.cells #[.slice oa o.length oc, .pointer p, .int .i64 (l.length : Int)] 102)) oa xa o x oc xc p l.length
  clear hB1 hb1
  go_wp2_with fail
  refine hfit.mono ?_
  clear hfit
  rintro e w2 ⟨rfl, hb2⟩
  have h3 := three_cells ((hb2.block w1.heap.size (by simp)).trans (World.alloc_heap_new w1 (.cells #[.slice oa o.length oc, .pointer p, .int .i64 (l.length : Int)] 102)))
  obtain ⟨c0, c1, _⟩ := h3
  have hb02 := (unhide HB1).trans (hb2.mono (unhide HB1).size)
  have HB02 := hide hb02
  have HC := unhide HH w2 hb02
  clear hb02 hb2 HH
  cases hf : fitB o x with
  | true =>
    have hc := HC hf
    have HF := hide hf
    clear HC hf
    go_wp2_with (go_at_call 90; refine hc.mono ?_; clear hc; rintro e w3 ⟨rfl, hb3⟩)
    go_ret
    exact ⟨ret_bool (by simp [hasA, unhide HF]), (unhide HB02).trans (hb3.mono (unhide HB02).size)⟩
  | false =>
    have HF := hide hf
    clear HC hf
    go_wp2_with fail
    go_ret
    exact ⟨ret_bool (by simp [hasA, unhide HF]), unhide HB02⟩



set_option maxRecDepth 100000 in
set_option maxHeartbeats 4000000 in
/-- A tuple that is not there is put into what a set holds. -/
theorem hput_any (S : Nat → Prop) (w : World) (sb hb : Nat) (o x : List Int) (l : List Item) (xv : Value) (h : SetAt S w sb hb o l) (hx : IntsS S w xv x) (hf : x.length = o.length) (hnot : hasI x l = false) (hfull : l.length < 1024) (hnew : NewIn S w) :
    Calls Tryz.prog 71 #[.pointer (some ⟨hb, 0, none⟩), xv] w fun e w' => (∃ v, e = .returned v) ∧ (∃ l', SetAt S w' sb hb o l' ∧ PutIn o (xv, x) l l') ∧ Keeps (fun b => b = hb) w w' := by
  obtain ⟨ov, p, d, hh, hov, hT⟩ := h.held
  obtain ⟨c0, c1, c2, f0, f1, f2⟩ := three_cells hh
  have hlt := lt_heap hh
  have hw := with_any S ov xv o x h.ok hf d w p l hov.ints hx hT h.rises hnot hnew
  have HH := hide h
  have HHH := hide hh
  have HOV := hide hov
  have HNEW := hide hnew
  obtain ⟨oa, oc, rfl, _⟩ := id hov
  obtain ⟨xa, xc, rfl, _⟩ := id hx
  have HF := hide hf
  have mixed : Tryz.prog.follows .mixedOrders = true := by kernel_rfl
  have hwD : Calls Tryz.prog 91 #[.pointer p, .slice oa o.length oc, .slice xa x.length xc] w.drew _ := with_any S (.slice oa o.length oc) (.slice xa x.length xc) o x h.ok hf d w.drew p l hov.ints hx (hT.stays (Step.drew 0 w).stays) h.rises hnot hnew
  clear hov hT hh h hx hf hnot hnew hw
  go_enter Tryz.func71, Tryz.ntmps71
  go_wp2_with fail
  go_region_with (first
    | (go_at_call 91; refine hwD.mono ?_; clear hwD; rintro e w1 ⟨p1, rfl, ⟨l1, hT1, hput⟩, hb1⟩; have hg := grown_any S w1 _ p1 l1 hT1 ((unhide HNEW).later hb1.size); have HP := hide (And.intro hput hb1); clear hput hT1 hb1)
    | (go_at_call 92; refine hg.mono ?_; clear hg; rintro e w2 ⟨p2, rfl, ⟨d2, hT2⟩, hb2⟩; have HT2 := hide (And.intro hT2 hb2); clear hT2 hb2; have hbx := (unhide HP).2.trans ((unhide HT2).2.mono (unhide HP).2.size); have hh2 := (hbx.block _ hlt).trans (unhide HHH); obtain ⟨g0, g1, g2, q0, q1, q2⟩ := three_cells hh2; have HH2 := hide hh2; clear hbx hh2))
  all_goals
    have hlen : (l.length : Int) < 1024 := by omega
    go_wp2_with fail
    go_end0
    obtain ⟨hput, hb1⟩ := unhide HP
    obtain ⟨hT2, hb2⟩ := unhide HT2
    have hb1 : Below w.heap.size w w1 := ((Below.refl _ w).drew).trans hb1
    have hbx : Below w.heap.size w w2 := hb1.trans (hb2.mono hb1.size)
    have hW := set_heap (set_heap (unhide HH2) 1 (.pointer p2)) 2 (.int .i64 ((l.length : Int) + 1))
    have hK2 : Keeps (fun b => b = hb) w2 ((w2.setCell ⟨hb, 1, none⟩ (.pointer p2)).setCell ⟨hb, 2, none⟩ (.int .i64 ((l.length : Int) + 1))) := ((Keeps.refl (fun b => b = hb) w2).setCell ⟨hb, 1, none⟩ rfl _).setCell ⟨hb, 2, none⟩ rfl _
    have hst2 : Stays S w2 ((w2.setCell ⟨hb, 1, none⟩ (.pointer p2)).setCell ⟨hb, 2, none⟩ (.int .i64 ((l.length : Int) + 1))) := hK2.stays (fun b _ hs e => (unhide HH).ns (e ▸ hs))
    have hst : Stays S w ((w2.setCell ⟨hb, 1, none⟩ (.pointer p2)).setCell ⟨hb, 2, none⟩ (.int .i64 ((l.length : Int) + 1))) := (Stays.of_below hbx).trans hst2
    have hl := hput.length
    refine ⟨⟨_, rfl⟩, ⟨l1, ⟨hst.cell (unhide HH).s0 (unhide HH).ss, (unhide HH).ss, ⟨_, p2, d2 + 1, ?_, (unhide HOV).stays hst, hT2.stays hst2⟩, (unhide HH).ns, (unhide HH).ok, hput.rises (unhide HH).ok (unhide HH).rises (unhide HF), by omega⟩, hput⟩, (Keeps.of_below hbx).trans hK2 (fun _ _ e => e)⟩
    rw [hl]
    exact hW
end Go.Proofs.YthcljhfankooaabGreat
