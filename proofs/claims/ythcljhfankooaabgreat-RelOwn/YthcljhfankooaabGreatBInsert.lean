/- New and Insert. -/
import Derived.Test.YthcljhfankooaabGreatBPut
namespace Go.Proofs.YthcljhfankooaabGreat
open Go.RowKit Go.Shelf

/-- Is it new, and is there room; what is told. -/
def insB (o x : List Int) (l : List Item) : Bool := fitB o x && (!hasI x l && decide (l.length < 1024))
def insE (o x : List Int) (l : List Item) : Int := if fitB o x = true then (if hasI x l = true then 0 else if l.length < 1024 then 0 else 18) else 14
/-- What is there then. -/
def Took (o x : List Int) (l l' : List Item) : Prop := (insB o x l = true ∧ ∃ v, PutIn o (v, x) l l') ∨ (insB o x l = false ∧ l' = l)

theorem tupBE {a b : Bool} {i j : Int} (h : a = b) (h2 : i = j) : Ending.returned (.tuple #[.bool a, .int .i64 i]) = .returned (.tuple #[.bool b, .int .i64 j]) := by rw [h, h2]

set_option maxRecDepth 100000 in
set_option maxHeartbeats 4000000 in
theorem insert_set (S : Nat → Prop) (w : World) (sb hb : Nat) (o x : List Int) (l : List Item) (xv : Value) (h : SetAt S w sb hb o l) (hx : Ints w.heap.size w xv x) (hnew : NewIn S w) :
    Calls Tryz.prog 48 #[.pointer (some ⟨sb, 0, none⟩), xv] w fun e w' => e = .returned (.tuple #[.bool (insB o x l), .int .i64 (insE o x l)]) ∧ (∃ l', SetAt S w' sb hb o l' ∧ Took o x l l') ∧ Keeps (fun b => b = hb) w w' := by
  obtain ⟨ov, p, d, hh, hov, hT⟩ := h.held
  obtain ⟨oa, oc, rfl, _⟩ := id hov
  have HXI := hide hx
  obtain ⟨xa, xc, rfl, _⟩ := id hx
  have hlen := h.len
  have s0 := h.s0
  obtain ⟨c0, c1, c2, _⟩ := three_cells hh
  have hlt := lt_heap hh
  have hslt := h.slt
  have hm := made_any w sb hb h.s0
  have hfit := hfits_any w oa xa o x oc xc p l.length
  have HS := hide h
  have HNEW := hide hnew
  clear hov hT hh h hx hnew
  go_enter Tryz.func48, Tryz.ntmps48
  go_wp2_with fail
  refine hm.mono ?_
  clear hm
  rintro e w' ⟨rfl, hw'⟩
  subst hw'
  go_wp2_with fail
  refine hfit.mono ?_
  clear hfit
  rintro e w2 ⟨rfl, hb2⟩
  have HB2 := hide hb2
  cases hf : fitB o x with
  | false =>
    have HF := hide hf
    clear hf hb2
    go_wp2_with fail
    go_ret2
    refine ⟨tupBE (by simp [insB, unhide HF]) (by simp [insE, unhide HF]), ⟨l, (unhide HS).later (unhide HB2), .inr ⟨by simp [insB, unhide HF], rfl⟩⟩, Keeps.of_below (unhide HB2)⟩
  | true =>
    have HF := hide hf
    have hx2 := ((unhide HXI).below hb2 (Nat.le_refl _)).mono hb2.size
    have hhas := has_set S w2 sb hb o x l _ ((unhide HS).later hb2) hx2
    have HX2 := hide hx2
    clear hf hb2 hx2
    go_wp2_with fail
    refine hhas.mono ?_
    clear hhas
    rintro e w3 ⟨rfl, hb3⟩
    have hb03 := (unhide HB2).trans (hb3.mono (unhide HB2).size)
    have HB3 := hide hb03
    have HX3 := hide (((unhide HXI).below hb03 (Nat.le_refl _)).mono hb03.size)
    have HA : Hid (hasA o x l = hasI x l) := by show hasA o x l = _; simp [hasA, unhide HF]
    have q0 := (hb03.cell (p := ⟨sb, 0, none⟩) hslt).trans s0
    have q2 := (hb03.cell (p := ⟨hb, 2, none⟩) hlt).trans c2
    clear hb3 hb03
    cases hi : hasA o x l with
    | true =>
      have HI := hide hi
      clear hi
      go_wp2_with fail
      go_ret2
      have e := (unhide HA).symm.trans (unhide HI)
      refine ⟨tupBE (by simp [insB, e]) (by simp [insE, unhide HF, e]), ⟨l, (unhide HS).later (unhide HB3), .inr ⟨by simp [insB, e], rfl⟩⟩, Keeps.of_below (unhide HB3)⟩
    | false =>
      have HI := hide hi
      clear hi
      by_cases hfull : l.length < 1024
      · have hclD : Calls Tryz.prog 36 #[.slice xa x.length xc] w3.drew fun e w' => ∃ r, e = .returned r ∧ OwnI w3.heap.size w' r x ∧ Below w3.heap.size w3 w' :=
          (cloneL_any (fun b => b < w3.heap.size) w3.drew _ x (IntsS.of_ints (unhide HX3) (fun _ h => h)) (by have := fitB_true.1 (unhide HF); have := (right_in (unhide HS).ok).1; omega)).mono fun e w' ⟨r, he, ho, hb⟩ => ⟨r, he, ho, ((Below.refl _ w3).drew).trans hb⟩
        have mixed : Tryz.prog.follows .mixedOrders = true := by kernel_rfl
        have hfi : (l.length : Int) < 1024 := by omega
        have NEXT : Hid (∀ w4 r, OwnI w3.heap.size w4 r x → Below w3.heap.size w3 w4 → Calls Tryz.prog 71 #[.pointer (some ⟨hb, 0, none⟩), r] w4 fun e w' => (∃ v, e = .returned v) ∧ (∃ l', SetAt S w' sb hb o l' ∧ PutIn o (r, x) l l') ∧ Keeps (fun b => b = hb) w4 w') := fun w4 r ho hb4 => by
          have hb04 := (unhide HB3).trans (hb4.mono (unhide HB3).size)
          have := hb04.size
          have := (unhide HB3).size
          exact hput_any S w4 sb hb o x l r ((unhide HS).later hb04) (ho.intsS.mono (fun b _ h => unhide HNEW b (by omega))) (fitB_true.1 (unhide HF)) ((unhide HA).symm.trans (unhide HI)) hfull ((unhide HNEW).later hb04.size)
        go_wp2_with fail
        go_region_with (first
          | (go_at_call 36; refine hclD.mono ?_; clear hclD; rintro e w4 ⟨r, rfl, hown, hb4⟩; have hpc := unhide NEXT w4 r hown hb4; have qq := (hb4.cell (p := ⟨sb, 0, none⟩) (by obtain ⟨_, hz, _⟩ := cells_of_cell q0; exact lt_heap hz)).trans q0; have HB4 := hide hb4; clear hown hb4)
          | (go_at_call 71; refine hpc.mono ?_; clear hpc; rintro e w5 ⟨⟨rv, rfl⟩, hl5, hk5⟩; have HL5 := hide (And.intro hl5 hk5); clear hl5 hk5))
        all_goals
          go_wp2_with fail
          go_ret2
          obtain ⟨⟨l', hs', hp'⟩, hk5⟩ := unhide HL5
          have e := (unhide HA).symm.trans (unhide HI)
          refine ⟨tupBE (by simp [insB, unhide HF, e, hfull]) (by simp [insE, unhide HF, e, hfull]), ⟨l', hs', .inl ⟨by simp [insB, unhide HF, e, hfull], _, hp'⟩⟩, ?_⟩
          exact ((Keeps.of_below (unhide HB3)).trans (Keeps.of_below (O := fun b => b = hb) (unhide HB4)) (fun _ _ e => e)).trans hk5 (fun _ _ e => e)
      · have hfi : ¬ ((l.length : Int) < 1024) := by omega
        have hle : l.length = 1024 := by omega
        have HLE := hide hle
        clear hle
        go_wp2_with fail
        go_ret2
        have e := (unhide HA).symm.trans (unhide HI)
        refine ⟨tupBE (by simp [insB, unhide HLE]) (by simp [insE, unhide HF, e, unhide HLE]), ⟨l, (unhide HS).later (unhide HB3), .inr ⟨by simp [insB, unhide HLE], rfl⟩⟩, Keeps.of_below (unhide HB3)⟩

set_option maxRecDepth 100000 in
set_option maxHeartbeats 4000000 in
theorem new_set (w : World) (ov : Value) (o : List Int) (ho : Ints w.heap.size w ov o) (hr : right o = true) :
    Calls Tryz.prog 22 #[ov] w fun e w' => ∃ sb, e = .returned (.tuple #[.pointer (some ⟨sb, 0, none⟩), .int .i64 0]) ∧ (∃ hb, SetAt (fun b => b ≠ hb) w' sb hb o [] ∧ w.heap.size ≤ hb) ∧ Below w.heap.size w w' := by
  have hc := right_any w.heap.size w ov o ho
  have hcl := cloneL_any (fun b => b < w.heap.size) w ov o (IntsS.of_ints ho (fun _ h => h)) (by have := (right_in hr).1; omega)
  rw [hr] at hc
  obtain ⟨oa, oc, rfl, _⟩ := id ho
  have HR := hide hr
  clear ho hr
  go_enter Tryz.func22, Tryz.ntmps22
  go_wp2_with (first
    | (go_at_call 44; refine hc.mono ?_; clear hc; rintro e w' ⟨rfl, rfl⟩)
    | (go_at_call 36; refine hcl.mono ?_; clear hcl; rintro e w1 ⟨r, rfl, hown, hb⟩; have hr3 : ∃ a c, r = .slice a o.length c := (by obtain ⟨a, c, e, _⟩ := hown.intsS; exact ⟨a, c, e⟩); obtain ⟨ra, rc, rfl⟩ := hr3; have HO := hide (And.intro hown hb); clear hown hb))
  go_ret2
  obtain ⟨hown, hb⟩ := unhide HO
  obtain ⟨W, hW⟩ : ∃ W, W = (w1.alloc (.cells #[.slice ra o.length rc, .pointer none, .int .i64 0] 102)).alloc (.cells #[.pointer (some ⟨w1.heap.size, 0, none⟩)] 104) := ⟨_, rfl⟩
  rw [← hW]
  have hs := hb.size
  have hB1 : Below w1.heap.size w1 W := by rw [hW]; exact ((Below.refl _ w1).alloc (Nat.le_refl _) _).alloc (by simp) _
  have hB : Below _ _ W := hb.trans (hB1.mono hs)
  have g0 : W.heap[w1.heap.size]? = some (.cells #[.slice ra o.length rc, .pointer none, .int .i64 0] 102 (0, 0)) := by
    rw [hW, Below.heap_alloc _ _ _ (by simp)]; exact World.alloc_heap_new _ _
  have g1 : W.heap[w1.heap.size + 1]? = some (.cells #[.pointer (some ⟨w1.heap.size, 0, none⟩)] 104 (0, 0)) := by
    rw [hW]
    have := World.alloc_heap_new (w1.alloc (.cells #[.slice ra o.length rc, .pointer none, .int .i64 0] 102)) (.cells #[.pointer (some ⟨w1.heap.size, 0, none⟩)] 104)
    rw [World.size_alloc] at this
    exact this
  refine ⟨_, rfl, ⟨w1.heap.size, ⟨one_cells g1, by show w1.heap.size + 1 ≠ w1.heap.size; omega, ⟨_, none, 0, g0, ?_, rfl, rfl⟩, fun h => h rfl, unhide HR, Rises.nil o, by simp⟩, hs⟩, hB⟩
  exact (hown.intsS.mono (S' := fun b => b ≠ w1.heap.size) (fun b hb _ => by omega)).stays (Stays.of_below hB1)
end Go.Proofs.YthcljhfankooaabGreat
