/- found. The rows that were found, sorted. found: the walk. -/
import Derived.Test.YthcljhfankooaabGreatMLexc
import Derived.Test.YthcljhfankooaabGreatMLawb
import Derived.Shelf.SlSortCmp.NoneTotal
namespace Go.Proofs.YthcljhfankooaabGreat
open Go.RowKit Go.Shelf

/-- What a row's tuple has for a note. -/
def nv (ns : List Nrow) (x : List Int) : Value := lookV x (nMap ns)
def flatR (ns : List Nrow) (us : List (Value × List Int)) : List Value := us.flatMap fun p => [p.1, nv ns p.2]
theorem flatR_len (ns : List Nrow) : ∀ us, (flatR ns us).length = us.length * 2
  | [] => rfl
  | p :: us => by
    have := flatR_len ns us
    unfold flatR at this ⊢
    rw [List.flatMap_cons, List.length_append, this]
    simp
    omega
theorem flatR_snoc (ns : List Nrow) (us : List (Value × List Int)) (p : Value × List Int) : flatR ns (us ++ [p]) = flatR ns us ++ [p.1, nv ns p.2] := by simp [flatR]
/-- A row that lies in blocks, and may be written. -/
structure IntsF (S : Nat → Prop) (w : World) (v : Value) (l : List Int) : Prop where
  ints : IntsS S w v l
  free : Free w v l
theorem Free.same {S : Nat → Prop} {w w' : World} {v : Value} {l : List Int} (h : Free w v l) (hi : IntsS S w v l) (hs : Stays S w w') : Free w' v l := fun b off n c e j hj => by
  obtain ⟨a, cap, e1, _, _, hc⟩ := hi
  obtain ⟨b', off', e2, hb, hcell⟩ := hc j hj
  rw [e2] at e1
  rw [e] at e1
  simp only [Value.slice.injEq, Option.some.injEq, Addr.mk.injEq] at e1
  obtain ⟨⟨rfl, rfl, _⟩, _⟩ := e1
  obtain ⟨ob, ho, hoc⟩ := cells_of_cell hcell
  have h2 : w'.heap[b]? = w.heap[b]? := (hs.same b ob ho hoc hb).trans ho.symm
  have := h b off n c e j hj
  unfold World.frozen? at this ⊢
  rw [h2]; exact this
theorem IntsF.stays {S : Nat → Prop} {w w' : World} {v : Value} {l : List Int} (h : IntsF S w v l) (hs : Stays S w w') : IntsF S w' v l := ⟨h.ints.stays hs, h.free.same h.ints hs⟩
theorem IntsF.mono {S S' : Nat → Prop} {w : World} {v : Value} {l : List Int} (h : IntsF S w v l) (hs : ∀ b, b < w.heap.size → S b → S' b) : IntsF S' w v l := ⟨h.ints.mono hs, h.free⟩
theorem IntsF.later {S : Nat → Prop} {w w' : World} {v : Value} {l : List Int} (h : IntsF S w v l) (hb : Below w.heap.size w w') : IntsF S w' v l := h.stays (Stays.of_below hb)
/-- What has been found among the first k. -/
structure Gat (w : World) (rx : Nat) (cols : Int) (t : List Int) (ns : List Nrow) (its : List Item) (k : Nat) (O : Nat → Prop) (W : World) : Prop where
  bel : Below w.heap.size w W
  mem : ∃ v us, Boxed W rx 88 v ∧ W.ownsRow w.heap.size 91 2 v us.length (flatR ns us) ∧ (∀ b, O b ↔ (b = rx ∨ some b = v.ownBlock)) ∧ us.map (·.2) = ((its.take k).map (·.2)).filter (fun x => likeB cols x t) ∧ us.length ≤ k ∧ ∀ p ∈ us, IntsF (fun b => w.heap.size ≤ b ∧ ¬ O b ∧ b < W.heap.size) W p.1 p.2
section
variable {w : World} {rx : Nat} {cols : Int} {t : List Int} {ns : List Nrow} {its : List Item} {k : Nat} {O : Nat → Prop}
theorem Gat.step {A B : World} {base : Nat} (h : Gat w rx cols t ns its k O A) (hs : Step base A B) (hb : w.heap.size ≤ base) : Gat w rx cols t ns its k O B := by
  obtain ⟨h0, v, us, h1, h2, h3, h4, h5, h6⟩ := h
  have := hs.size
  have := h0.size
  exact ⟨h0.trans (hs.below hb (by omega)), v, us, hs.box h1, ownsRow_step h2 hs, h3, h4, h5, fun p hp => ((h6 p hp).stays hs.stays).mono (fun b _ hb => ⟨hb.1, hb.2.1, by omega⟩)⟩
theorem infoR : ∃ i, Tryz.prog.info? 91 = some i ∧ i.zero = some (.agg #[.slice none 0 0, .complex .f64 0 0]) ∧ i.size = 2 ∧ i.bytes = 40 := by
  have h : (Tryz.prog.info? 91).map (fun i => (i.zero, i.size, i.bytes)) = some (some (.agg #[.slice none 0 0, .complex .f64 0 0]), 2, 40) := by kernel_rfl
  cases e : Tryz.prog.info? 91 with
  | none => rw [e] at h; cases h
  | some i => rw [e] at h; simp at h; exact ⟨i, rfl, h.1, h.2.1, h.2.2⟩
theorem appR_run {base : Nat} (w : World) (v u1 u2 : Value) (n : Nat) (vs : List Value) (h : w.ownsRow base 91 2 v n vs) (h1 : u1.oneCell' = true) (h2 : u2.oneCell' = true) (hb : base ≤ w.heap.size) (hn : n ≤ 2000) :
    ∃ r w', (Builtin.append_ #[88, 88] 88 #[v, .slice (some ⟨w.heap.size, 0, none⟩) 1 1]).run Tryz.prog (w.alloc (.cells #[u1, u2] 91)) = .ok r w' ∧ w'.ownsRow base 91 2 r (n + 1) (vs ++ [u1, u2]) ∧ Keeps (fun b => some b = v.ownBlock) w w' ∧ ∀ b, some b = r.ownBlock → some b = v.ownBlock ∨ w.heap.size ≤ b := by
  obtain ⟨i, g1, g2, g3, g4⟩ := infoR
  have ht : Tryz.prog.underlying 88 = some (.slice 91) := by kernel_rfl
  obtain ⟨r, w', hr, ho, hg, _, hat⟩ := run_append_own_at (P := Tryz.prog) (w.alloc (.cells #[u1, u2] 91)) base 88 88 91 i (.agg #[.slice none 0 0, .complex .f64 0 0]) 2 40 ht g1 g2 g3 g4 rfl (by decide) v n vs (World.ownsRow.alloc h _) ⟨w.heap.size, 0, none⟩ 1 1 [u1, u2] rfl (fun j x hj => by
    match j, hj with
    | 0, hj =>
      simp only [List.getElem?_cons_zero, Option.some.injEq] at hj
      subst hj
      rw [Addr.add_lit]
      exact (cell_at (World.alloc_heap_new _ _) _).trans rfl
    | 1, hj =>
      simp only [List.getElem?_cons_succ, List.getElem?_cons_zero, Option.some.injEq] at hj
      subst hj
      rw [Addr.add_lit]
      exact (cell_at (World.alloc_heap_new _ _) _).trans rfl
    | j + 2, hj => simp at hj) (fun x hx => by
      simp only [List.mem_cons, List.not_mem_nil, or_false] at hx
      rcases hx with rfl | rfl
      · exact h1
      · exact h2) (by unfold maxLen; omega) (by omega) (by simp; omega)
  refine ⟨r, w', hr, ho, ((Keeps.refl _ w).alloc _).trans (keeps_grown (O := fun b => some b = v.ownBlock) hg (fun b hb => hb)) (fun _ _ e => e), fun b hb2 => ?_⟩
  rcases hat with e | e
  · exact .inl (hb2.trans e)
  · rw [e] at hb2
    simp only [Option.some.injEq, World.size_alloc] at hb2
    exact .inr (by omega)
theorem nv_one (ns : List Nrow) (x : List Int) : (nv ns x).oneCell' = true := by
  unfold nv lookV
  cases h : findK x (nMap ns) 0 with
  | none => rfl
  | some q =>
    obtain ⟨k, v⟩ := q
    obtain ⟨j, p, _, e2, _, e4, _⟩ := findK_some (v := v) h
    unfold nMap at e2
    rw [List.getElem?_map, Option.map_eq_some_iff] at e2
    obtain ⟨r, _, e6⟩ := e2
    show v.oneCell' = true
    rw [e4, ← e6]; rfl
/-- One that is not alike. -/
theorem Gat.pass {W W' : World} (h : Gat w rx cols t ns its k O W) {x : Item} (hx : its[k]? = some x) (hl : likeB cols x.2 t = false) (hb : Below W.heap.size W W') : Gat w rx cols t ns its (k + 1) O W' := by
  obtain ⟨h0, v, us, h1, h2, h3, h4, h5, h6⟩ := h
  have hs := hb.size
  have h0s := h0.size
  refine ⟨h0.trans (hb.mono h0s), v, us, (hb.block _ h1.lt).trans h1, ownsRow_step h2 (Step.of_below (base := 0) hb), h3, ?_, by omega, fun p hp => ((h6 p hp).later hb).mono (fun b _ hb => ⟨hb.1, hb.2.1, by omega⟩)⟩
  rw [h4, List.take_add_one, hx]
  simp [hl]
/-- One more row. -/
theorem Gat.more {W W1 W2 : World} (h : Gat w rx cols t ns its k O W) (hrx : w.heap.size ≤ rx) {x : Item} (hx : its[k]? = some x) (hl : likeB cols x.2 t = true) {u v r : Value} {us : List (Value × List Int)} (hv : Boxed W rx 88 v) (hrow : W.ownsRow w.heap.size 91 2 v us.length (flatR ns us)) (hOO : ∀ b, O b ↔ (b = rx ∨ some b = v.ownBlock)) (hus : us.map (·.2) = ((its.take k).map (·.2)).filter (fun x => likeB cols x t)) (hk : us.length ≤ k) (hin : ∀ p ∈ us, IntsF (fun b => w.heap.size ≤ b ∧ ¬ O b ∧ b < W.heap.size) W p.1 p.2)
    (hu : IntsF (fun b => w.heap.size ≤ b ∧ ¬ O b ∧ b < W.heap.size) W u x.2) (b1 : Below W.heap.size W W1) (hr : W2.ownsRow w.heap.size 91 2 r (us.length + 1) (flatR ns us ++ [u, nv ns x.2])) (k2 : Keeps (fun b => some b = v.ownBlock) W1 W2) (hat : ∀ b, some b = r.ownBlock → some b = v.ownBlock ∨ W1.heap.size ≤ b) :
    (∃ O', Gat w rx cols t ns its (k + 1) O' (W2.setCell ⟨rx, 0, none⟩ r) ∧ (∀ b, O' b → (O b ∨ W.heap.size ≤ b) ∧ b < (W2.setCell ⟨rx, 0, none⟩ r).heap.size)) ∧ Keeps O W (W2.setCell ⟨rx, 0, none⟩ r) := by
  have s1 := b1.size
  have s2 := k2.size
  have h0 := h.bel
  have s0 := h0.size
  have hrl := hv.lt
  have hsz : (W2.setCell ⟨rx, 0, none⟩ r).heap.size = W2.heap.size := by simp [World.setCell]
  have hnr : some rx ≠ v.ownBlock := fun e => by
    rcases hrow.2 with ⟨e2, _⟩ | ⟨g, cap, cur, e2, _, e3, _⟩
    · rw [e2] at e; cases e
    · rw [e2] at e
      simp only [Value.ownBlock, Option.some.injEq] at e
      rw [← e, show W.heap[rx]? = _ from hv] at e3
      simp at e3
  have kO : Keeps O W (W2.setCell ⟨rx, 0, none⟩ r) := ((Keeps.of_below b1 (O := O)).trans (k2.mono (fun b e => (hOO b).2 (.inr e))) (fun _ _ e => e)).setCell ⟨rx, 0, none⟩ ((hOO rx).2 (.inl rfl)) r
  have kS : Keeps (fun b => b = rx) W2 (W2.setCell ⟨rx, 0, none⟩ r) := (Keeps.refl (fun b => b = rx) W2).setCell ⟨rx, 0, none⟩ rfl r
  have hlt : ∀ b, some b = r.ownBlock → b < W2.heap.size := fun b e => (hr.lt b e.symm).2
  have hb2 : W2.heap[rx]? = some (.cells #[v] 88 (0, 0)) := k2.same _ _ ((b1.block _ hrl).trans hv) hnr
  have hn : ∀ b, b < W.heap.size → ¬ O b → ¬ (b = rx ∨ some b = r.ownBlock) := fun b hb hnb e => by
    rcases e with e | e
    · exact hnb ((hOO b).2 (.inl e))
    · rcases hat b e with h | h
      · exact hnb ((hOO b).2 (.inr h))
      · omega
  have hmono : ∀ u y, IntsF (fun b => w.heap.size ≤ b ∧ ¬ O b ∧ b < W.heap.size) W u y → IntsF (fun b => w.heap.size ≤ b ∧ ¬ (b = rx ∨ some b = r.ownBlock) ∧ b < (W2.setCell ⟨rx, 0, none⟩ r).heap.size) (W2.setCell ⟨rx, 0, none⟩ r) u y := fun u y h =>
    (h.stays (kO.stays (fun b _ hb => hb.2.1))).mono (fun b _ hb => ⟨hb.1, hn b hb.2.2 hb.2.1, by have := hb.2.2; omega⟩)
  refine ⟨⟨fun b => b = rx ∨ some b = r.ownBlock, ⟨h0.trans (kO.below s0 (fun b e => ?_)), r, us ++ [(u, x.2)], ?_, ?_, fun _ => Iff.rfl, ?_, ?_, fun p hp => ?_⟩, fun b hb => ?_⟩, kO⟩
  · rcases (hOO b).1 e with e | e
    · omega
    · exact (hrow.lt b e.symm).1
  · exact (set_heap hb2 0 r).trans rfl
  · rw [List.length_append, flatR_snoc]
    rcases hr.2 with ⟨_, e⟩ | ⟨g, cap, cur, h1, h2, h3, h4⟩
    · omega
    · refine ⟨hr.1, .inr ⟨g, cap, cur, h1, h2, kS.same _ _ h3 (fun e => ?_), h4⟩⟩
      rw [h1] at hat
      rw [← e] at hnr
      rcases hat g rfl with h | h
      · exact hnr h
      · omega
  · rw [List.map_append, hus, List.take_add_one, hx]
    simp [hl]
  · simp; omega
  · rcases List.mem_append.1 hp with e | e
    · exact hmono _ _ (hin p e)
    · rw [List.mem_singleton] at e
      rw [e]; exact hmono _ _ hu
  · rcases hb with e | e
    · exact ⟨.inl ((hOO b).2 (.inl e)), by omega⟩
    · refine ⟨?_, by have := hlt b e; omega⟩
      rcases hat b e with h | h
      · exact .inl ((hOO b).2 (.inr h))
      · exact .inr (by omega)
end
end Go.Proofs.YthcljhfankooaabGreat

namespace Go.Proofs.YthcljhfankooaabGreat
open Go.RowKit Go.Shelf

theorem flatR_get (ns : List Nrow) : ∀ (us : List (Value × List Int)) (j : Nat) (p : Value × List Int), us[j]? = some p → (flatR ns us)[j * 2]? = some p.1 ∧ (flatR ns us)[j * 2 + 1]? = some (nv ns p.2)
  | [], j, p, h => by simp at h
  | q :: us, 0, p, h => by
    simp only [List.getElem?_cons_zero, Option.some.injEq] at h
    subst h
    simp [flatR]
  | q :: us, j + 1, p, h => by
    have ih := flatR_get ns us j p (by simpa using h)
    unfold flatR at ih ⊢
    rw [List.flatMap_cons, show (j + 1) * 2 = 2 + j * 2 by omega, show 2 + j * 2 + 1 = 2 + (j * 2 + 1) by omega, List.getElem?_append_right (by simp), List.getElem?_append_right (by simp)]
    simpa [show 2 + j * 2 - 2 = j * 2 by omega, show 2 + (j * 2 + 1) - 2 = j * 2 + 1 by omega] using ih
/-- What the sort leaves. -/
def SortOk (W : World) (ns : List Nrow) (us : List (Value × List Int)) (v : Value) (w' : World) : Prop := ∃ us' : List (Value × List Int), us'.Perm us ∧ us'.Pairwise (fun p q => ¬ lexC q.2 p.2 < 0) ∧ (∀ j p, us'[j]? = some p → ∃ g cap, v = .slice (some ⟨g, 0, none⟩) us.length cap ∧ w'.cell? ⟨g, j * 2, none⟩ = some p.1 ∧ w'.cell? ⟨g, j * 2 + 1, none⟩ = some (nv ns p.2)) ∧ Keeps (fun b => some b = v.ownBlock) W w'
theorem lift_rows (B : Nat → Prop) (W : World) (ns : List Nrow) : ∀ us : List (Value × List Int), (∀ p ∈ us, IntsS B W p.1 p.2) → ∃ dl : List (Srow B W), dl.map (fun s => s.1) = us.map (fun p => (p.1, p.2, nv ns p.2))
  | [], _ => ⟨[], rfl⟩
  | p :: us, h => by
    obtain ⟨dl, e⟩ := lift_rows B W ns us (fun q hq => h q (by simp [hq]))
    exact ⟨⟨(p.1, p.2, nv ns p.2), h p (by simp), nv_one ns p.2⟩ :: dl, by simp [e]⟩
theorem rows_sort (W : World) (base : Nat) (v : Value) (us : List (Value × List Int)) (ns : List Nrow) (B : Nat → Prop) (hrow : W.ownsRow base 91 2 v us.length (flatR ns us)) (hin : ∀ p ∈ us, IntsS B W p.1 p.2) (hB : ∀ b, some b = v.ownBlock → ¬ B b) (hlen : us.length ≤ 2000) :
    Calls Tryz.prog 57 #[v, .func (.func 58) #[] #[]] W fun e w' => e = .returned (.tuple #[]) ∧ SortOk W ns us v w' := by
  by_cases h0 : us = []
  · subst h0
    obtain ⟨a, c, e⟩ : ∃ a c, v = .slice a 0 c := by
      rcases hrow.2 with ⟨e, _⟩ | ⟨g, cap, cur, e, _⟩
      · exact ⟨_, _, e⟩
      · exact ⟨_, _, e⟩
    subst e
    refine (AnyF.slices_SortFunc_none (P := Tryz.prog) { Tryz.sortRow with } a c _ W).mono ?_
    rintro e w' ⟨rfl, rfl⟩
    exact ⟨rfl, [], List.Perm.refl _, List.Pairwise.nil, fun j p h => by simp at h, Keeps.refl _ _⟩
  · have hpos : 0 < us.length := List.length_pos_iff.2 h0
    obtain ⟨g, cap, cur, rfl, hbg, hg, hn, hm, hs, ht⟩ : ∃ g cap cur, v = .slice (some ⟨g, 0, none⟩) us.length cap ∧ base ≤ g ∧ W.heap[g]? = some (.cells cur 91 (0, 0)) ∧ us.length ≤ cap ∧ cap ≤ maxLen ∧ cur.size = cap * 2 ∧ cur.toList.take (us.length * 2) = flatR ns us := by
      rcases hrow.2 with ⟨_, e⟩ | h
      · omega
      · exact h
    have hI : Inhabited (Srow B W) := ⟨Classical.choice (srow_one B W)⟩
    obtain ⟨dl, hdl⟩ := lift_rows B W ns us hin
    have hsz : dl.toArray.size = us.length := by
      have := congrArg List.length hdl
      simpa using this
    have hget : ∀ j, j < us.length → ∃ p, us[j]? = some p ∧ (dl.toArray[j]!).1 = (p.1, p.2, nv ns p.2) := fun j hj => by
      have h1 : (dl.map (fun s => s.1))[j]? = (us.map (fun p => (p.1, p.2, nv ns p.2)))[j]? := by rw [hdl]
      rw [List.getElem?_map, List.getElem?_map, List.getElem?_eq_getElem hj] at h1
      have hj' : j < dl.length := by have := hsz; simp at this; omega
      rw [List.getElem?_eq_getElem hj'] at h1
      refine ⟨us[j], List.getElem?_eq_getElem hj, ?_⟩
      rw [getElem!_pos _ j (by simpa using hj')]
      simpa using h1
    have hH : Sort.HoldsK encR 2 W g 0 dl.toArray := by
      intro t ht'
      rw [Sort.size_flatK, hsz] at ht'
      have hj : t / 2 < us.length := by omega
      obtain ⟨p, hp, hd⟩ := hget (t / 2) hj
      have hc := World.ownsRow.cellAt hrow t (by omega)
      have key : encR (dl.toArray[t / 2]!) = [p.1, nv ns p.2] := by unfold encR; rw [hd]
      rw [Nat.zero_add, Sort.get_flatK _ _ _ _ (by rw [hsz]; exact ht'), key]
      refine ⟨?_, by simp [World.frozen?, hg]⟩
      rw [hc]
      obtain ⟨f1, f2⟩ := flatR_get ns us (t / 2) p hp
      rcases Nat.mod_two_eq_zero_or_one t with e | e
      · rw [e]
        rw [show t / 2 * 2 = t by omega] at f1
        rw [f1]; rfl
      · rw [e]
        rw [show t / 2 * 2 + 1 = t by omega] at f2
        rw [f2]; rfl
    have hc := sort_any B W g cap dl.toArray (hB g rfl) hH (lt_heap hg) (by rw [hsz]; omega)
    rw [hsz] at hc
    refine hc.mono ?_
    rintro e w' ⟨rfl, d', n, os, hperm, hsort, rfl⟩
    refine ⟨rfl, ?_⟩
    have hsz' : d'.size = us.length := by rw [hperm.1]; exact hsz
    have hH' := holdsK_sortWorldK_c encR 2 W g 0 dl.toArray d' n os hH (lt_heap hg) hperm.1
    have hpl : d'.toList.Perm dl := by
      have h3 := hperm.2.2
      have e1 : d'.extract 0 us.length = d' := by rw [← hsz']; exact Array.extract_size
      have e2 : dl.toArray.extract 0 us.length = dl.toArray := by
        have := Array.extract_size (xs := dl.toArray)
        rw [hsz] at this
        exact this
      rw [e1, e2] at h3
      simpa using h3
    have hnv : ∀ s ∈ d'.toList, s.1.2.2 = nv ns s.1.2.1 := fun s hs => by
      have h4 : s.1 ∈ dl.map (fun s => s.1) := List.mem_map.2 ⟨s, hpl.mem_iff.1 hs, rfl⟩
      rw [hdl] at h4
      obtain ⟨p, _, e⟩ := List.mem_map.1 h4
      rw [← e]
    refine ⟨d'.toList.map (fun s => (s.1.1, s.1.2.1)), ?_, ?_, fun j p hj => ⟨g, cap, rfl, ?_⟩, ⟨rfl, rfl, rfl, sortw_size, fun b o hb hne => ?_⟩⟩
    · have h5 := hpl.map (fun s => (s.1.1, s.1.2.1))
      have h6 : dl.map (fun s => (s.1.1, s.1.2.1)) = us := by
        have := congrArg (List.map fun q : Value × List Int × Value => (q.1, q.2.1)) hdl
        rw [List.map_map, List.map_map] at this
        exact this.trans (by simp [Function.comp_def])
      rw [h6] at h5
      exact h5
    · rw [List.pairwise_map, List.pairwise_iff_getElem]
      intro i j hi hj hij
      have := hsort i j (Nat.zero_le _) hij (by simpa [hsz'] using hj)
      rw [getElem!_pos _ i (by simpa using hi), getElem!_pos _ j (by simpa using hj)] at this
      have := of_decide_eq_false this
      simpa [cmpR] using this
    · rw [List.getElem?_map, Option.map_eq_some_iff] at hj
      obtain ⟨s, hs, rfl⟩ := hj
      have hjl : j < d'.size := by
        have := (List.getElem?_eq_some_iff.1 hs).1
        simpa using this
      have hds : d'[j]! = s := by
        rw [getElem!_pos _ j hjl]
        have := (List.getElem?_eq_some_iff.1 hs).2
        simpa using this
      have k1 := (hH' (j * 2) (by rw [Sort.size_flatK]; omega)).1
      have k2 := (hH' (j * 2 + 1) (by rw [Sort.size_flatK]; omega)).1
      rw [Nat.zero_add, Sort.get_flatK _ _ _ _ (by omega)] at k1 k2
      rw [show j * 2 / 2 = j by omega, show j * 2 % 2 = 0 by omega, hds] at k1
      rw [show (j * 2 + 1) / 2 = j by omega, show (j * 2 + 1) % 2 = 1 by omega, hds] at k2
      refine ⟨k1, k2.trans ?_⟩
      rw [← hnv s (List.mem_of_getElem? hs)]
      rfl
    · rw [sortw_same (lt_heap hb) (fun e => hne (by rw [e]; rfl))]
      exact hb
end Go.Proofs.YthcljhfankooaabGreat

namespace Go.Proofs.YthcljhfankooaabGreat
open Go.RowKit Go.Shelf
attribute [local go_sem] Oper.semAt_some

theorem nv_shape (ns : List Nrow) (x : List Int) : ∃ a b, nv ns x = .complex .f64 a b := by
  unfold nv lookV
  cases h : findK x (nMap ns) 0 with
  | none => exact ⟨_, _, rfl⟩
  | some q =>
    obtain ⟨k, v⟩ := q
    obtain ⟨j, p, _, e2, _, e4, _⟩ := findK_some (v := v) h
    unfold nMap at e2
    rw [List.getElem?_map, Option.map_eq_some_iff] at e2
    obtain ⟨r, _, e6⟩ := e2
    exact ⟨_, _, by show v = _; rw [e4, ← e6]; rfl⟩

theorem append_drawn {P : Program} {ops : Array Oper} {o : Oper} {a : Act} {w : World} {K : Act → World → Prop} {Q : Exit → Act → World → Prop}
    (hg : o.guard = none) (s x : Operand) (t : TypeId) (hop : o.op = Op.call { callee := Callee.builtin Builtin.append, args := #[s, x], argTypes := #[t, t] })
    (v u : Value) (hs : a.eval s = v) (hx : a.eval x = u) {v' : Value} {w' : World} (hr : (Builtin.append_ #[t, t] o.type #[v, u]).run P w = .ok v' w') (hK : K (a.put o.dst v') w') :
    if Region.wanted o (yielded ops a.tmps) = true then Oper.wp P o a w K Q else K (a.put o.dst undef) w := by
  have hw : Region.wanted o (yielded ops a.tmps) = true := by simp [Region.wanted, hg]
  rw [if_pos hw]
  unfold Oper.wp
  simp [execOp, hop, resolve, invoke, builtin, hs, hx, hr, Result.andThen]
  exact hK
theorem box_ne_row {W : World} {rx base n : Nat} {u v : Value} {xs : List Value} (hv : Boxed W rx 88 u) (hrow : W.ownsRow base 91 2 v n xs) : some rx ≠ v.ownBlock := fun e => by
  rcases hrow.2 with ⟨e2, _⟩ | ⟨g, cap, cur, e2, _, e3, _⟩
  · rw [e2] at e; cases e
  · rw [e2] at e
    simp only [Value.ownBlock, Option.some.injEq] at e
    rw [← e, show W.heap[rx]? = _ from hv] at e3
    simp at e3
/-- Rows in memory. -/
def RowsAt (B : Nat → Prop) (w : World) (v : Value) (R : List Nrow) : Prop := ∃ a cap, v = .slice a R.length cap ∧ R.length ≤ cap ∧ cap ≤ 9223372036854775807 ∧ ∀ j, j < R.length → ∃ b u p, a = some ⟨b, 0, none⟩ ∧ B b ∧ R[j]? = some p ∧ w.cell? ⟨b, j * 2, none⟩ = some u ∧ w.cell? ⟨b, j * 2 + 1, none⟩ = some (noteV p.2.1 p.2.2) ∧ IntsS B w u p.1
/-- The same, whose tuples may be written (T: the blocks where they lie). -/
def RowsAtF (B T : Nat → Prop) (w : World) (v : Value) (R : List Nrow) : Prop := ∃ a cap, v = .slice a R.length cap ∧ R.length ≤ cap ∧ cap ≤ 9223372036854775807 ∧ ∀ j, j < R.length → ∃ b u p, a = some ⟨b, 0, none⟩ ∧ B b ∧ ¬ T b ∧ R[j]? = some p ∧ w.cell? ⟨b, j * 2, none⟩ = some u ∧ w.cell? ⟨b, j * 2 + 1, none⟩ = some (noteV p.2.1 p.2.2) ∧ IntsF (fun b => B b ∧ T b) w u p.1
theorem RowsAtF.rows {B T : Nat → Prop} {w : World} {v : Value} {R : List Nrow} (h : RowsAtF B T w v R) : RowsAt B w v R := by
  obtain ⟨a, cap, h1, h2, h3, h4⟩ := h
  refine ⟨a, cap, h1, h2, h3, fun j hj => ?_⟩
  obtain ⟨b, u, p, e1, e2, _, e3, e4, e5, e6⟩ := h4 j hj
  exact ⟨b, u, p, e1, e2, e3, e4, e5, e6.ints.mono (fun _ _ h => h.1)⟩
/-- What a search finds. -/
def IsFound (cols : Int) (t : List Int) (ns R : List Nrow) : Prop := R.Pairwise (fun p q => lexC p.1 q.1 < 0) ∧ ∀ p, p ∈ R ↔ p ∈ ns ∧ likeB cols p.1 t = true
def FoundOk (w : World) (cols : Nat) (t : List Int) (ns : List Nrow) (e : Ending) (w' : World) : Prop := ∃ rv R T, e = .returned rv ∧ RowsAtF (fun b => w.heap.size ≤ b) T w' rv R ∧ IsFound cols t ns R ∧ Below w.heap.size w w'

theorem getN_of_mem {x : List Int} {q : Int × Int} : ∀ {ns : List Nrow}, (nKeys ns).Nodup → (x, q) ∈ ns → getN x ns = some q
  | [], _, h => by cases h
  | p :: r, hn, h => by
    simp only [nKeys, List.map_cons, List.nodup_cons] at hn
    unfold getN
    rcases List.mem_cons.1 h with e | e
    · rw [← e]; simp
    · by_cases hx : x = p.1
      · exact absurd (List.mem_map.2 ⟨(x, q), e, hx⟩) hn.1
      · rw [if_neg hx]; exact getN_of_mem hn.2 e
theorem isFound_of {cols : Int} {t : List Int} {ns : List Nrow} {its : List Item} {us us' : List (Value × List Int)} (hk : (nKeys ns).Nodup) (hnd : (its.map (·.2)).Nodup) (hsub : ∀ x ∈ its.map (·.2), x ∈ nKeys ns) (hsup : ∀ x ∈ nKeys ns, likeB cols x t = true → x ∈ its.map (·.2))
    (hus : us.map (·.2) = (its.map (·.2)).filter (fun x => likeB cols x t)) (hp : us'.Perm us) (hs : us'.Pairwise (fun p q => ¬ lexC q.2 p.2 < 0)) : IsFound cols t ns (us'.map (fun p => (p.2, (getN p.2 ns).getD (0, 0)))) := by
  have hmem : ∀ x, x ∈ us'.map (·.2) ↔ (x ∈ nKeys ns ∧ likeB cols x t = true) := fun x => by
    rw [(hp.map (·.2)).mem_iff, hus, List.mem_filter]
    exact ⟨fun h => ⟨hsub x h.1, h.2⟩, fun h => ⟨hsup x h.1 h.2, h.2⟩⟩
  have hnd' : (us'.map (·.2)).Nodup := by
    rw [(hp.map (·.2)).nodup_iff, hus]
    exact hnd.filter _
  constructor
  · rw [List.pairwise_map]
    have hnd2 : us'.Pairwise (fun p q => p.2 ≠ q.2) := List.pairwise_map.1 hnd'
    refine (hs.and hnd2).imp (fun {p q} h => ?_)
    have h1 := lexC_swap p.2 q.2
    rcases Int.lt_trichotomy (lexC p.2 q.2) 0 with h2 | h2 | h2
    · exact h2
    · exact absurd (lexC_eq h2) h.2
    · have := h.1; omega
  · intro p
    constructor
    · intro h
      obtain ⟨r, hr, rfl⟩ := List.mem_map.1 h
      have h1 := (hmem r.2).1 (List.mem_map.2 ⟨r, hr, rfl⟩)
      refine ⟨?_, h1.2⟩
      cases hg : getN r.2 ns with
      | none => exact absurd h1.1 (getN_none.1 hg)
      | some q => exact getN_mem hg
    · rintro ⟨h1, h2⟩
      obtain ⟨x, q⟩ := p
      have h3 := (hmem x).2 ⟨List.mem_map.2 ⟨(x, q), h1, rfl⟩, h2⟩
      obtain ⟨r, hr, e⟩ := List.mem_map.1 h3
      refine List.mem_map.2 ⟨r, hr, ?_⟩
      rw [e, getN_of_mem hk h1]; rfl

set_option maxRecDepth 100000 in
set_option maxHeartbeats 8000000 in
theorem found_any [Xt] (w : World) (rb hb mb wd : Nat) (sh : List (Nat × Nat)) (os : List (List Int)) (ns : List Nrow) (h : RelAt w rb hb mb sh wd os ns) (t : List Int) (tv : Value) (ht : Ints w.heap.size w tv t) (hl : t.length = wd) (cols : Nat) (hcols : cols < 2 ^ wd) :
    Calls Tryz.prog 38 #[.pointer (some ⟨rb, 0, none⟩), .int .i64 (cols : Int), tv] w fun e w' => FoundOk w cols t ns e w' := by
  have mixed : Tryz.prog.follows .mixedOrders = true := by kernel_rfl
  obtain ⟨ta, tc, rfl, _⟩ := id ht
  obtain ⟨W0, hW0⟩ : ∃ W0, W0 = ((w.alloc (.cells #[.pointer (some ⟨rb, 0, none⟩)] 23)).alloc (.cells #[.int .i64 (cols : Int)] 3)).alloc (.cells #[.slice ta t.length tc] 32) := ⟨_, rfl⟩
  have hz0 : W0.heap.size = w.heap.size + 3 := by rw [hW0]; simp
  have b0 : Below w.heap.size w W0 := by rw [hW0]; exact (((Below.refl _ w).alloc (Nat.le_refl _) _).alloc (by simp) _).alloc (by simp; omega) _
  have k3 : Boxed W0 w.heap.size 23 (.pointer (some ⟨rb, 0, none⟩)) := by rw [hW0]; exact ((Boxed.new w _ _).alloc _).alloc _
  have k4 : Boxed W0 (w.heap.size + 1) 3 (.int .i64 (cols : Int)) := by
    have := (Boxed.new (w.alloc (.cells #[.pointer (some ⟨rb, 0, none⟩)] 23)) 3 (.int .i64 (cols : Int))).alloc (.cells #[.slice ta t.length tc] 32)
    rw [World.size_alloc] at this
    rw [hW0]; exact this
  have k5 : Boxed W0 (w.heap.size + 2) 32 (.slice ta t.length tc) := by
    have := Boxed.new ((w.alloc (.cells #[.pointer (some ⟨rb, 0, none⟩)] 23)).alloc (.cells #[.int .i64 (cols : Int)] 3)) 32 (.slice ta t.length tc)
    rw [World.size_alloc, World.size_alloc] at this
    rw [hW0]; exact this
  have hR0 := h.later b0
  have CELL : Hid (∀ v, Below W0.heap.size W0 v → v.cell? ⟨w.heap.size, 0, none⟩ = some (.pointer (some ⟨rb, 0, none⟩)) ∧ v.cell? ⟨w.heap.size + 1, 0, none⟩ = some (.int .i64 (cols : Int)) ∧ v.cell? ⟨w.heap.size + 2, 0, none⟩ = some (.slice ta t.length tc) ∧ v.cell? ⟨rb, 0, none⟩ = some (.pointer (some ⟨hb, 0, none⟩)) ∧ v.cell? ⟨hb, 0, none⟩ = some (.int .i64 wd) ∧ v.cell? ⟨hb, 3, none⟩ = some (.map (some mb))) := fun v hv => by
    obtain ⟨c1, c2, c3⟩ := hR0.cells v hv
    exact ⟨Boxed.cell ((hv.block _ k3.lt).trans k3), Boxed.cell ((hv.block _ k4.lt).trans k4), Boxed.cell ((hv.block _ k5.lt).trans k5), c1, c2, c3⟩
  have hw8 := h.held.wd8
  have hsh : (cols : Int) / 2 ^ wd = 0 := by
    have h1 : ((cols : Int) / 2 ^ wd) = ((cols / 2 ^ wd : Nat) : Int) := by rw [Int.natCast_ediv, Int.natCast_pow]; rfl
    rw [h1, Nat.div_eq_of_lt hcols]; rfl
  have hcol2 : cols < 256 := Nat.lt_of_lt_of_le hcols (show 2 ^ wd ≤ 2 ^ 8 from Nat.pow_le_pow_right (by omega) hw8)
  have MADE : Hid (∀ v, Below W0.heap.size W0 v → Calls Tryz.prog 24 #[.pointer (some ⟨rb, 0, none⟩)] v fun e w' => e = .returned (.bool true) ∧ Below W0.heap.size W0 w') := fun v hv => (rmade_any v rb hb (unhide CELL v hv).2.2.2.1).mono fun e w' ⟨h1, n, h2⟩ => ⟨h1, by rw [h2]; exact below_drewN hv n⟩
  have FITS : Hid (∀ v, Below W0.heap.size W0 v → Calls Tryz.prog 25 #[.pointer (some ⟨hb, 0, none⟩), .slice ta t.length tc] v fun e w' => e = .returned (.bool true) ∧ Below W0.heap.size W0 w') := fun v hv => (rfits_any v hb wd t.length tc ta (unhide CELL v hv).2.2.2.2.1).mono fun e w' ⟨h1, n, h2⟩ => ⟨by rw [h1, decide_eq_true hl], by rw [h2]; exact below_drewN hv n⟩
  have NEAR : Hid (∀ v, Below W0.heap.size W0 v → Calls Tryz.prog 55 #[.pointer (some ⟨hb, 0, none⟩), .int .i64 (cols : Int), .slice ta t.length tc] v fun e w' => NearOk v cols t ns (fun b => Fre hb mb sh b ∧ (b < W0.heap.size ∨ v.heap.size ≤ b)) e w') := fun v hv => near_any W0 v hb mb wd sh os ns hR0.held hv t _ ((ht.below (b0.trans (hv.mono (by omega))) (Nat.le_refl _)).mono (by have := hv.size; omega)) hl cols
  have LIKE : Hid (∀ v x xv, Keeps (fun b => W0.heap.size ≤ b) W0 v → Ints v.heap.size v xv x → x.length = wd → Calls Tryz.prog 56 #[.int .i64 (cols : Int), xv, .slice ta t.length tc] v fun e w' => e = .returned (.bool (likeB cols x t)) ∧ ∃ n, w' = v.drewN n) := fun v x xv hv hx hxl => by
    have hbv : Below W0.heap.size W0 v := hv.below (Nat.le_refl _) (fun _ h => h)
    exact likr_any v cols x t xv _ hcol2 hx ((ht.below (b0.trans (hbv.mono (by omega))) (Nat.le_refl _)).mono (by have := hv.size; omega)) (by rw [hxl, hl]) (by omega)
  have HH := hide (And.intro h (And.intro hR0 (And.intro b0 (And.intro hz0 (And.intro ht hl)))))
  have HW := hide hW0
  clear h hR0 b0 hz0 ht hl hW0 k3 k4 k5 hcols
  refine calls_marks Tryz.func38 rfl ?_
  simp only [Tryz.ntmps38, List.size_toArray, List.length_cons, List.length_nil, Nat.reduceAdd, Nat.reduceSub, Array.replicate_succ, Array.replicate_zero, List.push_toArray, List.append_toArray, List.nil_append, List.cons_append]
  go_wp2_with fail
  rw [← unhide HW]
  refine region_mixN (md := [(0, true), (1, false), (2, true), (3, true), (4, true), (5, true), (6, true), (7, true), (8, true), (9, false), (10, true), (11, true), (12, true), (13, true), (14, true), (15, true), (16, true), (17, true), (18, true), (19, true), (20, true), (21, true), (22, true), (23, true)]) (fun w' => Below W0.heap.size W0 w') mixed (by kernel_rfl) rfl (by kernel_rfl) (fun PP hPP => ?_)
  iterate 1 (refine wpMix_take (v := ?_) rfl (by kernel_rfl) (fun w' hw => ?_) ?_; rotate_left; · (obtain ⟨q1, q2, q3, q4, q5, q6⟩ := unhide CELL w' hw; go_simp; try with_reducible rfl))
  refine wpMix_force rfl ((Below.refl _ W0).drew) (fun K hK => ?_)
  go_simp
  refine (unhide MADE _ ((Below.refl _ W0).drew)).mono ?_
  rintro e v1 ⟨rfl, b1⟩
  have B1 := hide b1
  clear b1
  go_wp2_with fail
  iterate 7 (refine wpMix_take (v := ?_) rfl (by kernel_rfl) (fun w' hw => ?_) ?_; rotate_left; · (obtain ⟨q1, q2, q3, q4, q5, q6⟩ := unhide CELL w' hw; go_simp; try with_reducible rfl))
  refine wpMix_force rfl (unhide B1) (fun K hK => ?_)
  go_simp
  refine (unhide FITS _ (unhide B1)).mono ?_
  rintro e v2 ⟨rfl, b2⟩
  have B2 := hide b2
  clear b2
  go_wp2_with fail
  iterate 14 (refine wpMix_take (v := ?_) rfl (by kernel_rfl) (fun w' hw => ?_) ?_; rotate_left; · (obtain ⟨q1, q2, q3, q4, q5, q6⟩ := unhide CELL w' hw; go_simp; try with_reducible rfl))
  refine wpMix_nil (unhide B2) (hPP _ _ ?_)
  clear hPP
  simp [Act.put, Array.setIfInBounds]
  clear MADE FITS hsh
  go_wp2_with fail
  obtain ⟨v3, hv3⟩ : ∃ v3, v3 = v2.alloc (.cells #[.slice none 0 0] 88) := ⟨_, rfl⟩
  rw [← hv3]
  have b3 : Below W0.heap.size W0 v3 := by rw [hv3]; exact (unhide B2).alloc (unhide B2).size _
  have bx3 : Boxed v3 v2.heap.size 88 (.slice none 0 0) := by rw [hv3]; exact Boxed.new v2 _ _
  have s3 : v3.heap.size = v2.heap.size + 1 := by rw [hv3]; simp
  have H3 := hide (And.intro b3 (And.intro bx3 (And.intro s3 (show Below v2.heap.size v2 v3 by rw [hv3]; exact (Below.refl _ v2).alloc (Nat.le_refl _) _))))
  clear hv3 b3 bx3 s3
  refine region_mixN (md := [(0, true), (1, true), (2, true), (3, true), (4, true), (5, true), (6, false)]) (fun w' => Below W0.heap.size W0 w') mixed (by kernel_rfl) rfl (by kernel_rfl) (fun PP hPP => ?_)
  iterate 6 (refine wpMix_take (v := ?_) rfl (by kernel_rfl) (fun w' hw => ?_) ?_; rotate_left; · (obtain ⟨q1, q2, q3, q4, q5, q6⟩ := unhide CELL w' hw; go_simp; try with_reducible rfl))
  refine wpMix_force rfl ((unhide H3).1.drew) (fun K hK => ?_)
  go_simp
  refine (unhide NEAR _ ((unhide H3).1.drew)).mono ?_
  rintro e v4 ⟨lb, its, rfl, hg, hle, hnd, hsub, hsup, b4⟩
  have b4' : Below v3.heap.size v3 v4 := ((Below.refl _ v3).drew).trans b4
  have b04 : Below W0.heap.size W0 v4 := (unhide H3).1.trans (b4'.mono (unhide H3).1.size)
  have H4 := hide (And.intro hle (And.intro hnd (And.intro hsub (And.intro hsup (And.intro b4' b04)))))
  have HG := hide hg
  clear hg hle hnd hsub hsup b4 b4' b04
  go_wp2_with fail
  refine wpMix_nil (unhide H4).2.2.2.2.2 (hPP _ _ ?_)
  clear hPP NEAR
  go_wp2_with fail
  have hseq := unhide HG
  clear HG
  obtain ⟨hle, hnd, hsub, hsup, b34, b04⟩ := unhide H4
  obtain ⟨b3, bx3, s3, b23⟩ := unhide H3
  have s34 := b34.size
  have hz0 := (unhide HH).2.2.2.1
  have b2s := (unhide B2).size
  have h0 : Gat v2 v2.heap.size cols t ns its 0 (fun b => b = v2.heap.size) v4 := ⟨b23.trans (b34.mono b23.size), .slice none 0 0, [], (b34.block _ bx3.lt).trans bx3, World.ownsRow_nil _ _ _ _, fun b => by simp [Value.ownBlock], rfl, Nat.le_refl _, fun p hp => by cases hp⟩
  clear b34 b04 b3 bx3 b23 hnd hsub hsup
  refine (wpIn_wide (n := 6)).1 (wp_rangeH (gf := 95) (lb := lb) rfl eg_range hseq (fun _ _ _ _ _ h h2 => h.step h2) (fun b => b = v2.heap.size) (fun b hb => by omega) (fun b hb e => by
      rcases hb.1.2 with h1 | h1
      · omega
      · have : v3.drew.heap.size = v3.heap.size := rfl
        omega)
    (fun k O W => Gat v2 v2.heap.size cols t ns its k O W) (fun _ _ _ => False) (fun k O A B h h2 => h.step h2 (by omega)) (fun _ _ _ _ h _ => h) h0 ?a1 ?assign ?body ?done ?stop)
  case assign =>
    intro l m v Wx KK hK
    gi_wp2
    exact hK
  case body =>
    intro ll m k' O2 H v Wx hsz hO2 hH hlt hi hy
    have hiG := hi
    obtain ⟨hbel, v0, us, hv, hrow, hOO, hus, husl, hin⟩ := hi
    obtain ⟨y, hy1, hyi, hyf⟩ := hy
    obtain ⟨hle, hnd, hsub, hsup, b34, b04⟩ := unhide H4
    obtain ⟨hR, hR0, b0, hz0', ht, hl⟩ := unhide HH
    have b0x : Below W0.heap.size W0 Wx := (unhide B2).trans (hbel.mono (unhide B2).size)
    have hyk : y.2 ∈ nKeys ns := hsub _ (List.mem_map.2 ⟨y, List.mem_of_getElem? hy1, rfl⟩)
    have hyl : y.2.length = wd := by
      obtain ⟨p, hp, e⟩ := List.mem_map.1 hyk
      rw [← e]; exact (hR.held.keys.2 p hp).1
    have hyi2 : IntsF (fun b => v2.heap.size ≤ b ∧ ¬ O2 b ∧ b < Wx.heap.size) Wx v y.2 := ⟨hyi.mono (fun b _ hb => ⟨by have := (hH b hb).1; omega, (hH b hb).2.1, (hH b hb).2.2⟩), hyf⟩
    obtain ⟨q1, q2, q3, q4, q5, q6⟩ := unhide CELL Wx b0x
    have hlk := unhide LIKE Wx y.2 v (Keeps.of_below b0x) hyi.ints hyl
    have KEYX : Hid (∀ u, Below Wx.heap.size Wx u → Calls Tryz.prog 33 #[v] u fun e w' => e = .returned (keyV y.2) ∧ Below Wx.heap.size Wx w') := fun u hu => (keyOf_any u v y.2 (hyi.later hu).ints (by omega)).mono fun e w' hh => ⟨hh.1, hu.trans (hh.2.mono hu.size)⟩
    obtain ⟨na, nb, hnv⟩ := nv_shape ns y.2
    have LOOK : Hid (∀ u, Below W0.heap.size W0 u → (Instr.lookup 60 (.map (some mb)) (keyV y.2) false).run Tryz.prog u = .ok (.complex .f64 na nb) u) := fun u hu => by
      have := look_K u mb (nMap ns) y.2 (hR0.later hu).held.map false
      rw [show lookV y.2 (nMap ns) = .complex .f64 na nb from hnv] at this
      exact this
    obtain ⟨va, vc, ev, _⟩ := id hyi
    obtain ⟨a0, c0, e0⟩ : ∃ a0 c0, v0 = .slice a0 us.length c0 := by
      rcases hrow.2 with ⟨e, e2⟩ | ⟨g, cap, cur, e, _⟩
      · exact ⟨none, 0, by rw [e, e2]⟩
      · exact ⟨_, _, e⟩
    have hO2b : ∀ b, O2 b → b < Wx.heap.size := fun b hb => (hO2 b hb).2
    have hkb : k' ≤ 1024 := by omega
    have HI := hide (And.intro hiG (And.intro hbel (And.intro hv (And.intro hrow (And.intro hOO (And.intro hus (And.intro husl (And.intro hin (And.intro hy1 (And.intro hyi2 (And.intro hnv (And.intro b0x (And.intro hO2b hkb)))))))))))))
    subst ev
    subst e0
    generalize hyn : y.2.length = yl at hlk KEYX
    have HYN := hide hyn
    clear hiG hbel hv hrow hOO hus husl hin hy1 hyi hyf hyi2 hnv b0x hO2b hle hnd hsub hsup b34 b04 hR hR0 b0 hz0' ht hl hyk hyl hH hO2 hyn hkb
    generalize hlb : likeB cols y.2 t = lk at hlk
    gi_wp2
    refine ⟨trivial, fun h => (by cases h), (CallsIn.inRound ll (callsIn_wide.2 hlk)).mono ?_⟩
    clear hlk
    rintro e w5 ⟨rfl, n5, hw5⟩
    have b5 : Below Wx.heap.size Wx w5 := by rw [hw5]; exact below_drewN (Below.refl _ Wx) n5
    have B5 := hide b5
    clear b5 hw5 q1 q2 q3 q4 q5 q6
    cases lk with
    | false =>
      have HLB := hide hlb
      clear hlb
      gi_wp2
      obtain ⟨hiG, hbel, hv, hrow, hOO, hus, husl, hin, hy1, hyi2, hnv, b0x, hO2b, hkb⟩ := unhide HI
      exact ⟨⟨O2, hiG.pass hy1 (unhide HLB) (unhide B5), fun b hb => ⟨.inl hb, by have := hO2b b hb; have := (unhide B5).size; omega⟩⟩, Keeps.of_below (unhide B5)⟩
    | true =>
      have HLB := hide hlb
      clear hlb
      gi_wp2
      refine region_mixF (m := 14) (ml := [(0, 2), (1, 1), (2, 1), (3, 1), (4, 1), (5, 1), (6, 1), (7, 1), (8, 1), (9, 1), (10, 0), (11, 1), (12, 1), (13, 0), (14, 0), (15, 0)]) (fun f w' => (f = false → w'.cell? ⟨v2.heap.size, 0, none⟩ = some (.slice a0 us.length c0)) ∧ Below W0.heap.size W0 w') mixed (by kernel_rfl) (by rfl) rfl (by rfl) (by kernel_rfl) (fun PP hPP => ?_)
      have hRX : ∀ u, Below Wx.heap.size Wx u → u.cell? ⟨v2.heap.size, 0, none⟩ = some (.slice a0 us.length c0) := fun u hu => by
        obtain ⟨hiG, hbel, hv, hrow, hOO, hus, husl, hin, hy1, hyi2, hnv, b0x, hO2b, hkb⟩ := unhide HI
        exact Boxed.cell ((hu.block _ hv.lt).trans hv)
      have HRX := hide hRX
      clear hRX
      have b5d : Below Wx.heap.size Wx w5.drew := (unhide B5).drew
      have b5w : Below W0.heap.size W0 w5.drew := by
        obtain ⟨hiG, hbel, hv, hrow, hOO, hus, husl, hin, hy1, hyi2, hnv, b0x, hO2b, hkb⟩ := unhide HI
        exact b0x.trans (b5d.mono b0x.size)
      have B5D := hide (And.intro b5d b5w)
      clear b5d b5w
      refine wpMixF_till (v := ?_) rfl (by kernel_rfl) (fun w' hw => ?_) ?_
      rotate_left
      · (have q0 := hw.1 rfl; go_simp; try with_reducible rfl)
      iterate 9 (refine wpMixF_take (v := ?_) rfl (by kernel_rfl) (fun f w' hw => ?_) ?_; rotate_left; · (obtain ⟨q1, q2, q3, q4, q5, q6⟩ := unhide CELL w' hw.2; go_simp; try with_reducible rfl))
      refine wpMixF_force rfl ⟨fun _ => unhide HRX _ (unhide B5D).1, (unhide B5D).2⟩ (fun K hK => ?_)
      go_simp
      refine (unhide KEYX _ (unhide B5D).1).mono ?_
      rintro e w6 ⟨rfl, b6⟩
      have b6w : Below W0.heap.size W0 w6 := by
        obtain ⟨hiG, hbel, hv, hrow, hOO, hus, husl, hin, hy1, hyi2, hnv, b0x, hO2b, hkb⟩ := unhide HI
        exact b0x.trans (b6.mono b0x.size)
      have B6 := hide (And.intro b6 b6w)
      have X6 : ∃ r w8, (Builtin.append_ #[88, 88] 88 #[.slice a0 us.length c0, .slice (some ⟨w6.heap.size, 0, none⟩) 1 1]).run Tryz.prog (w6.alloc (.cells #[.slice va yl vc, .complex .f64 na nb] 91)) = .ok r w8 ∧ (∃ ra rc, r = .slice ra (us.length + 1) rc) ∧ w8.cell? ⟨v2.heap.size, 0, none⟩ = some (.slice a0 us.length c0) ∧ w8.frozen? ⟨v2.heap.size, 0, none⟩ = false ∧ Below W0.heap.size W0 w8 ∧ Below W0.heap.size W0 (w8.setCell ⟨v2.heap.size, 0, none⟩ r) ∧ (∃ O', Gat v2 v2.heap.size cols t ns its (k' + 1) O' (w8.setCell ⟨v2.heap.size, 0, none⟩ r) ∧ (∀ b, O' b → (O2 b ∨ Wx.heap.size ≤ b) ∧ b < (w8.setCell ⟨v2.heap.size, 0, none⟩ r).heap.size)) ∧ Keeps O2 Wx (w8.setCell ⟨v2.heap.size, 0, none⟩ r) := by
        obtain ⟨hiG, hbel, hv, hrow, hOO, hus, husl, hin, hy1, hyi2, hnv, b0x, hO2b, hkb⟩ := unhide HI
        have hb2 := (unhide B2).size
        have hsx := hbel.size
        have hs6 := b6.size
        have hrow6 := ownsRow_step hrow (Step.of_below (base := 0) b6)
        obtain ⟨r, w8, hrun, hrow8, k8, hat⟩ := appR_run w6 _ (.slice va yl vc) (.complex .f64 na nb) us.length _ hrow6 rfl rfl (by omega) (by omega)
        have hnr := box_ne_row hv hrow
        have hbx : w8.heap[v2.heap.size]? = some (.cells #[.slice a0 us.length c0] 88 (0, 0)) := k8.same _ _ ((b6.block _ hv.lt).trans hv) hnr
        have hm := hiG.more (Nat.le_refl _) hy1 (unhide HLB) hv hrow hOO hus husl hin hyi2 b6 (by rw [hnv, unhide HYN]; exact hrow8) k8 hat
        have hshape : ∃ ra rc, r = .slice ra (us.length + 1) rc := by
          rcases hrow8.2 with ⟨_, e⟩ | ⟨g, cap, cur, e, _⟩
          · omega
          · exact ⟨_, _, e⟩
        have b8 : Below W0.heap.size W0 w8 := b6w.trans (k8.below (by omega) (fun b e => by have := (hrow.lt b e.symm).1; omega))
        exact ⟨r, w8, hrun, hshape, by rw [cell_at hbx]; rfl, by simp [World.frozen?, hbx], b8, b8.setCell (p := ⟨v2.heap.size, 0, none⟩) hb2 _, hm.1, hm.2⟩
      obtain ⟨r8, w8, hrun, ⟨r8a, r8c, er8⟩, hc8, hf8, b8, b8s, hG8, hK8⟩ := X6
      subst er8
      have H8 := hide (And.intro b8 (And.intro b8s (And.intro hG8 hK8)))
      clear b6 b6w b8 b8s hG8 hK8
      go_wp2_with fail
      refine wpMixF_take (v := ?_) rfl (by kernel_rfl) (fun f w' hw => ?_) ?_
      rotate_left
      · (have q0 := unhide LOOK w' hw.2; go_simp; try with_reducible rfl)
      refine wpMixF_take (v := ?_) rfl (by kernel_rfl) (fun f w' hw => ?_) ?_
      rotate_left
      · (go_simp; try with_reducible rfl)
      refine wpMixF_force rfl ⟨fun _ => unhide HRX _ (unhide B6).1, (unhide B6).2⟩ (fun K hK => ?_)
      go_simp
      refine hK _ _ ?_
      clear hK K
      refine wpMixF_force rfl ⟨fun _ => ?_, ?_⟩ (fun K hK => ?_)
      · exact unhide HRX _ ((unhide B6).1.alloc (unhide B6).1.size _)
      · exact (unhide B6).2.alloc (unhide B6).2.size _
      refine append_drawn rfl _ _ 88 rfl _ _ rfl rfl hrun (hK _ _ ?_)
      clear hK K
      refine wpMixF_force rfl ⟨fun h => (by simp at h), (unhide H8).1⟩ (fun K hK => ?_)
      go_simp
      refine hK _ _ ?_
      clear hK K
      refine wpMixF_nil ⟨fun h => (by cases h), (unhide H8).2.1⟩ (hPP _ _ ?_)
      clear hPP
      gi_wp2
      exact ⟨(unhide H8).2.2.1, (unhide H8).2.2.2.mono (fun b e => .inl e)⟩
  case done =>
    rintro D O2 Wx hD hO2 hi hDx
    obtain ⟨hbel, v, us, hv, hrow, hOO, hus, husl, hin⟩ := hi
    rw [List.take_length] at hus
    have hso := rows_sort Wx v2.heap.size v us ns (fun b => v2.heap.size ≤ b ∧ ¬ O2 b ∧ b < Wx.heap.size) hrow (fun p hp => (hin p hp).ints) (fun b e h => h.2.1 ((hOO b).2 (.inr e))) (by omega)
    obtain ⟨a0, c0, e0⟩ : ∃ a0 c0, v = .slice a0 us.length c0 := by
      rcases hrow.2 with ⟨e, e2⟩ | ⟨g, cap, cur, e, _⟩
      · exact ⟨none, 0, by rw [e, e2]⟩
      · exact ⟨_, _, e⟩
    subst e0
    have hnr := box_ne_row hv hrow
    have hDr : some D ≠ (Value.slice a0 us.length c0).ownBlock := fun e => by
      rcases hrow.2 with ⟨e2, _⟩ | ⟨g, cap, cur, e2, _, e3, _⟩
      · rw [e2] at e; cases e
      · rw [e2] at e
        simp only [Value.ownBlock, Option.some.injEq] at e
        rw [← e, hDx] at e3
        cases e3
    have hc := hv.cell
    have HI := hide (And.intro hbel (And.intro hv (And.intro hrow (And.intro hOO (And.intro hus (And.intro husl (And.intro hin (And.intro hnr (And.intro hDr (And.intro hD hDx))))))))))
    clear hbel hv hrow hOO hus husl hin hnr hDr hD hDx
    go_wp2_with fail
    refine hso.mono ?_
    clear hso
    rintro e w8 ⟨rfl, hS8⟩
    have hc8 : w8.cell? ⟨v2.heap.size, 0, none⟩ = some (.slice a0 us.length c0) := by
      obtain ⟨hbel, hv, hrow, hOO, hus, husl, hin, hnr, hDr, hD, hDx⟩ := unhide HI
      obtain ⟨us', hperm, hpw, hcells, k8⟩ := hS8
      exact Boxed.cell (k8.same _ _ hv hnr)
    have HS8 := hide hS8
    clear hS8 hc
    go_wp2_with fail
    obtain ⟨hbel, hv, hrow, hOO, hus, husl, hin, hnr, hDr, hD, hDx⟩ := unhide HI
    obtain ⟨us', hperm, hpw, hcells, k8⟩ := unhide HS8
    obtain ⟨hle, hnd, hsub, hsup, b34, b04⟩ := unhide H4
    obtain ⟨hR, hR0, b0, hz0', ht, hl⟩ := unhide HH
    have s8 := k8.size
    have sx := hbel.size
    have b28 : Below v2.heap.size v2 w8 := hbel.trans (k8.below sx (fun b e => (hrow.lt b e.symm).1))
    have b08 : Below w.heap.size w w8 := b0.trans (((unhide B2).mono (by omega)).trans (b28.mono (by omega)))
    have hfound := isFound_of hR.held.keys.1 hnd hsub hsup hus hperm hpw
    have hul : us'.length = us.length := hperm.length_eq
    have hin8 : ∀ p ∈ us', IntsF (fun b => w.heap.size ≤ b ∧ (v2.heap.size ≤ b ∧ ¬ O2 b ∧ b < Wx.heap.size)) w8 p.1 p.2 := fun p hp => ((hin p (hperm.mem_iff.1 hp)).stays (k8.stays (fun b _ hb e => hb.2.1 ((hOO b).2 (.inr e))))).mono (fun b _ hb => ⟨by have := hb.1; omega, hb⟩)
    refine leaves_marks (base := v4.heap.size) (v := .slice a0 us.length c0) [D] _ (by simp) (fun E hE => ?_) (fun w' hs => ⟨by simp [results, Tryz.f38, go_sem], .slice a0 us.length c0, us'.map (fun p => (p.2, (getN p.2 ns).getD (0, 0))), (fun b => v2.heap.size ≤ b ∧ ¬ O2 b ∧ b < Wx.heap.size), rfl, ⟨a0, c0, by rw [List.length_map, hul], ?_, ?_, fun j hj => ?_⟩, hfound, b08.trans (hs.below (by omega) b08.size)⟩)
    · have e : E = D := by simpa using hE
      rw [e]
      exact ⟨by omega, k8.same _ _ hDx hDr⟩
    · rw [List.length_map, hul]
      rcases hrow.2 with ⟨e2, e3⟩ | ⟨g, cap, cur, e2, _, _, e4, _⟩
      · omega
      · simp only [Value.slice.injEq] at e2
        rw [e2.2.2]; exact e4
    · rcases hrow.2 with ⟨e2, e3⟩ | ⟨g, cap, cur, e2, _, _, _, e5, _⟩
      · simp only [Value.slice.injEq] at e2
        omega
      · simp only [Value.slice.injEq] at e2
        unfold maxLen at e5
        omega
    · rw [List.length_map] at hj
      obtain ⟨g, cap, eg, c1, c2⟩ := hcells j us'[j] (List.getElem?_eq_getElem hj)
      simp only [Value.slice.injEq] at eg
      have hmem : us'[j] ∈ us' := List.getElem_mem hj
      have hkey : us'[j].2 ∈ nKeys ns := by
        have h1 : us'[j].2 ∈ us.map (·.2) := (hperm.map (·.2)).mem_iff.1 (List.mem_map.2 ⟨_, hmem, rfl⟩)
        rw [hus] at h1
        exact hsub _ (List.mem_filter.1 h1).1
      have hnote : nv ns us'[j].2 = noteV ((getN us'[j].2 ns).getD (0, 0)).1 ((getN us'[j].2 ns).getD (0, 0)).2 := by
        obtain ⟨p, hp, e⟩ := List.mem_map.1 hkey
        have hlen : us'[j].2.length = wd := by rw [← e]; exact (hR.held.keys.2 p hp).1
        have := (hR.held.look hlen).2
        unfold nv
        rw [this]
        cases hg : getN us'[j].2 ns with
        | none => exact absurd hkey (getN_none.1 hg)
        | some q => rfl
      rw [hnote] at c2
      refine ⟨g, us'[j].1, _, eg.1, ?_, fun h => h.2.1 ((hOO g).2 (.inr (by rw [eg.1]; rfl))), by rw [List.getElem?_map, List.getElem?_eq_getElem hj]; rfl, hs.cell c1, hs.cell c2, (hin8 _ hmem).stays hs.stays⟩
      have := (hrow.lt g (by rw [eg.1]; rfl)).1
      omega
  case stop =>
    rintro D cc k' Wx hD hk' h hDx
    exact h.elim
end Go.Proofs.YthcljhfankooaabGreat
