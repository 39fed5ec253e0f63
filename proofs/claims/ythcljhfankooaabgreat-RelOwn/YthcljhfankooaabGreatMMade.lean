/- New. New: the walk. -/
import Derived.Test.YthcljhfankooaabGreatMRels
import Derived.Test.YthcljhfankooaabGreatMCe
namespace Go.Proofs.YthcljhfankooaabGreat
open Go.RowKit Go.Shelf

theorem new_T2 (w : World) (ov : Value) (o : List Int) (ho : Ints w.heap.size w ov o) (hr : right o = true) :
    Calls Tryz.prog 22 #[ov] w fun e w' => ∃ sb, e = .returned (.tuple #[.pointer (some ⟨sb, 0, none⟩), .int .i64 0]) ∧ (∃ hb, SetT (fun b => w.heap.size ≤ b ∧ b ≠ hb) w' sb hb o [] ∧ w.heap.size ≤ hb) ∧ Below w.heap.size w w' :=
  (new_set2 w ov o ho hr).mono fun e w' ⟨sb, h1, ⟨hb, h2, h3⟩, h4⟩ => ⟨sb, h1, ⟨hb, ⟨[], h2, fun _ h => (by cases h), rfl⟩, h3⟩, h4⟩
theorem infoS : ∃ i, Tryz.prog.info? 64 = some i ∧ i.zero = some (.pointer none) ∧ i.size = 1 ∧ i.bytes = 8 := by
  have h : (Tryz.prog.info? 64).map (fun i => (i.zero, i.size, i.bytes)) = some (some (.pointer none), 1, 8) := by kernel_rfl
  cases e : Tryz.prog.info? 64 with
  | none => rw [e] at h; cases h
  | some i => rw [e] at h; simp at h; exact ⟨i, rfl, h.1, h.2.1, h.2.2⟩
theorem appS_run {base : Nat} (w : World) (v u : Value) (n : Nat) (vs : List Value) (h : w.ownsRow base 64 1 v n vs) (hu : u.oneCell' = true) (hb : base ≤ w.heap.size) (hn : n ≤ 2000) :
    ∃ r w', (Builtin.append_ #[61, 61] 61 #[v, .slice (some ⟨w.heap.size, 0, none⟩) 1 1]).run Tryz.prog (w.alloc (.cells #[u] 64)) = .ok r w' ∧ w'.ownsRow base 64 1 r (n + 1) (vs ++ [u]) ∧ Keeps (fun b => some b = v.ownBlock) w w' ∧ ∀ b, some b = r.ownBlock → some b = v.ownBlock ∨ w.heap.size ≤ b := by
  obtain ⟨i, h1, h2, h3, h4⟩ := infoS
  have ht : Tryz.prog.underlying 61 = some (.slice 64) := by kernel_rfl
  obtain ⟨r, w', hr, ho, hg, _, hat⟩ := run_append_own_at (P := Tryz.prog) (w.alloc (.cells #[u] 64)) base 61 61 64 i (.pointer none) 1 8 ht h1 h2 h3 h4 rfl (by decide) v n vs (World.ownsRow.alloc h _) ⟨w.heap.size, 0, none⟩ 1 1 [u] rfl (fun j x hj => by
    cases j with
    | zero =>
      simp only [List.getElem?_cons_zero, Option.some.injEq] at hj
      subst hj
      rw [Addr.add_lit]
      exact (cell_at (World.alloc_heap_new _ _) _).trans rfl
    | succ j => simp at hj) (fun x hx => by simp at hx; subst hx; exact hu) (by unfold maxLen; omega) (by omega) (by simp; omega)
  refine ⟨r, w', hr, ho, ((Keeps.refl _ w).alloc _).trans (keeps_grown (O := fun b => some b = v.ownBlock) hg (fun b hb => hb)) (fun _ _ e => e), fun b hb2 => ?_⟩
  rcases hat with e | e
  · exact .inl (hb2.trans e)
  · rw [e] at hb2
    simp only [Option.some.injEq, World.size_alloc] at hb2
    exact .inr (by omega)
theorem least_pos {l : List Int} {n : Nat} (h : C.IsLeast l n) : 0 < n := by
  obtain ⟨W, h1, h0, _, ps, h2, h3⟩ := h
  have h4 : ps.length ≤ (W.filter fun _ => !true).length + (W.filter fun b => decide (b ≠ 0)).length := h2.1.le (fun _ => true) (fun b => decide (b ≠ 0)) (fun a ha b hb _ hne hs => by
    refine decide_eq_true (fun e => hne ?_)
    rw [e] at hs
    have := C.sub_le hs (h0 a ha) (Int.le_refl 0)
    have := h0 a ha
    omega)
  have h5 : (W.filter fun b => decide (b ≠ 0)).length < W.length := by
    have h6 : (0 : Int) ∈ W := (h1 0).2 (.inl rfl)
    rcases Nat.lt_or_eq_of_le (List.length_filter_le (fun b : Int => decide (b ≠ 0)) W) with h | h
    · exact h
    · have := (List.filter_eq_self.1 (List.filter_sublist.eq_of_length h)) 0 h6
      simp at this
  have h6 : (W.filter fun _ => !true).length = 0 := by simp
  omega

theorem ownsRow_stay {base : Nat} {O : Nat → Prop} {A B : World} {e : TypeId} {v : Value} {n : Nat} {vs : List Value} (h : A.ownsRow base e 1 v n vs) (hk : Keeps O A B) (hn : ∀ b, some b = v.ownBlock → ¬ O b) : B.ownsRow base e 1 v n vs := by
  refine ⟨h.1, ?_⟩
  rcases h.2 with h | ⟨g, cap, cur, h1, h2, h3, h4⟩
  · exact .inl h
  · exact .inr ⟨g, cap, cur, h1, h2, hk.same _ _ h3 (hn g (by rw [h1]; rfl)), h4⟩
/-- On the way: the first j sets are made. -/
structure NewAt (w1 wr : World) (hb mb : Nat) (wd : Nat) (ov sv : Value) (os : List (List Int)) (sh : List (Nat × Nat)) : Prop where
  blk : wr.heap[hb]? = some (.cells #[.int .i64 wd, ov, sv, .map (some mb)] 63 (0, 0))
  map : wr.heap[mb]? = some (.map #[] 0)
  row : wr.ownsRow (w1.heap.size + 2) 64 1 sv sh.length (sh.map fun p => .pointer (some ⟨p.1, 0, none⟩))
  own : ∀ b, some b = sv.ownBlock → b ∉ Dk hb mb sh ∧ w1.heap.size ≤ b ∧ b < wr.heap.size
  nd : (Dk hb mb sh).Nodup
  lt : ∀ b ∈ Dk hb mb sh, w1.heap.size ≤ b ∧ b < wr.heap.size
  sets : ∀ j, j < sh.length → SetT (fun b => (b ∉ Dk hb mb sh ∧ some b ≠ sv.ownBlock) ∧ w1.heap.size ≤ b) wr (sh.getD j (0, 0)).1 (sh.getD j (0, 0)).2 (os.getD j []) []
  bel : Below w1.heap.size w1 wr
def NewR (w1 : World) (hb mb wd : Nat) (ov : Value) (os : List (List Int)) (i : Value) (wr : World) : Prop := ∃ sh sv, sh.length ≤ os.length ∧ i = .int .i64 (sh.length : Int) ∧ NewAt w1 wr hb mb wd ov sv os sh
theorem NewAt.more {w1 wr w2 w3 : World} {hb mb wd : Nat} {ov sv r : Value} {os : List (List Int)} {sh : List (Nat × Nat)} {sb hk : Nat} (h : NewAt w1 wr hb mb wd ov sv os sh) (hT : SetT (fun b => wr.heap.size ≤ b ∧ b ≠ hk) w2 sb hk (os.getD sh.length []) []) (hge : wr.heap.size ≤ hk) (b2 : Below wr.heap.size wr w2)
    (hrow : w3.ownsRow (w1.heap.size + 2) 64 1 r (sh.length + 1) ((sh.map fun p => .pointer (some ⟨p.1, 0, none⟩)) ++ [.pointer (some ⟨sb, 0, none⟩)])) (k3 : Keeps (fun b => some b = sv.ownBlock) w2 w3) (hr : ∀ b, some b = r.ownBlock → (some b = sv.ownBlock ∨ w2.heap.size ≤ b) ∧ b < w3.heap.size) :
    NewAt w1 (w3.setCell ⟨hb, 2, none⟩ r) hb mb wd ov r os (sh ++ [(sb, hk)]) := by
  have hs2 := b2.size
  have hs3 := k3.size
  have hklt := hT.lt
  have hbm : hb ∈ Dk hb mb sh := by simp [Dk]
  have hmm : mb ∈ Dk hb mb sh := by simp [Dk]
  have hlb := h.lt hb hbm
  have hlm := h.lt mb hmm
  have hne : ∀ b, some b = sv.ownBlock → b ≠ hb ∧ b ≠ mb := fun b e => ⟨fun e' => (h.own b e).1 (e' ▸ hbm), fun e' => (h.own b e).1 (e' ▸ hmm)⟩
  have hD : ∀ b, b ∈ Dk hb mb (sh ++ [(sb, hk)]) ↔ b ∈ Dk hb mb sh ∨ b = hk := fun b => by simp [Dk, or_assoc]
  have hsz : (w3.setCell ⟨hb, 2, none⟩ r).heap.size = w3.heap.size := by simp [World.setCell]
  have hbm' : hb ≠ mb := by
    have := h.nd
    simp only [Dk, List.nodup_cons, List.mem_cons, not_or] at this
    exact this.1.1
  have kS : Keeps (fun b => b = hb) w3 (w3.setCell ⟨hb, 2, none⟩ r) := (Keeps.refl (fun b => b = hb) w3).setCell ⟨hb, 2, none⟩ rfl r
  have b3 : w3.heap[hb]? = some (.cells #[.int .i64 wd, ov, sv, .map (some mb)] 63 (0, 0)) := k3.same _ _ ((b2.block _ hlb.2).trans h.blk) (fun e => (hne _ e).1 rfl)
  refine ⟨(set_heap b3 2 r).trans rfl, kS.same _ _ (k3.same _ _ ((b2.block _ hlm.2).trans h.map) (fun e => (hne _ e).2 rfl)) (Ne.symm hbm'), ?_, ?_, ?_, ?_, ?_, ?_⟩
  · rw [List.length_append, List.map_append]
    have : w3.ownsRow (w1.heap.size + 2) 64 1 r (sh.length + 1) ((sh.map fun p => .pointer (some ⟨p.1, 0, none⟩)) ++ [.pointer (some ⟨sb, 0, none⟩)]) := hrow
    refine ownsRow_stay this kS (fun b e e' => ?_)
    rcases (hr b e).1 with h1 | h1
    · exact (hne b h1).1 e'
    · omega
  · intro b e
    rw [hsz, hD]
    refine ⟨?_, ?_, (hr b e).2⟩
    rotate_left
    · rcases (hr b e).1 with h2 | h2
      · exact (h.own b h2).2.1
      · have := h.bel.size; omega
    rintro (h1 | h1)
    · rcases (hr b e).1 with h2 | h2
      · exact (h.own b h2).1 h1
      · have := (h.lt b h1).2; omega
    · rcases (hr b e).1 with h2 | h2
      · have := (h.own b h2).2.2; omega
      · omega
  · have : Dk hb mb (sh ++ [(sb, hk)]) = Dk hb mb sh ++ [hk] := by simp [Dk]
    rw [this, List.nodup_append]
    refine ⟨h.nd, by simp, fun a ha c hc => ?_⟩
    rw [List.mem_singleton] at hc
    have := (h.lt a ha).2
    omega
  · intro b hb'
    rw [hsz]
    rcases (hD b).1 hb' with h1 | h1
    · have := h.lt b h1; omega
    · have := h.bel.size; omega
  · intro j hj
    have hKS : ∀ {S : Nat → Prop} {s hh : Nat} {o : List Int} {xs : List (List Int)}, SetT S w2 s hh o xs → (∀ b, S b → b < w2.heap.size → some b ≠ sv.ownBlock ∧ b ≠ hb) → (some hh ≠ sv.ownBlock ∧ hh ≠ hb) → SetT S (w3.setCell ⟨hb, 2, none⟩ r) s hh o xs := fun {S s hh o xs} hT h1 h2 => by
      have st : Stays S w2 (w3.setCell ⟨hb, 2, none⟩ r) := ⟨by rw [hsz]; exact hs3, fun b o hb1 hb2 hs => kS.same _ _ (k3.same _ _ hb1 (fun e => (h1 b hs (lt_heap hb1)).1 e)) (fun e => (h1 b hs (lt_heap hb1)).2 e)⟩
      refine hT.stays st ?_
      have hl := hT.lt
      rw [Array.getElem?_eq_getElem hl]
      exact kS.same _ _ (k3.same _ _ (Array.getElem?_eq_getElem hl) (fun e => h2.1 e)) (fun e => h2.2 e)
    have hnr : ∀ b, b < w2.heap.size → some b ≠ sv.ownBlock → some b ≠ r.ownBlock := fun b h1 h2 h3 => by
      rcases (hr b h3).1 with h4 | h4
      · exact h2 h4
      · omega
    rw [List.length_append] at hj
    by_cases e : j < sh.length
    · have e1 : (sh ++ [(sb, hk)]).getD j (0, 0) = sh.getD j (0, 0) := by rw [List.getD, List.getElem?_append_left e]; rfl
      have h1 := h.sets j e
      have hin := sh_in (os := sh.map (·.1 |> fun n => [(n : Int)])) (sh := sh) (by simp) (n := j) (by simpa using e)
      have hd : (sh.getD j (0, 0)).2 ∈ Dk hb mb sh := by simp only [Dk, List.mem_cons]; exact .inr (.inr hin)
      rw [e1]
      have hnb : (sh.getD j (0, 0)).2 ≠ hb := fun h3 => by
        have := h.nd
        simp only [Dk, List.nodup_cons, List.mem_cons, not_or] at this
        exact this.1.2 (h3 ▸ hin)
      have h2 := (h1.mono (S' := fun b => ((b ∉ Dk hb mb sh ∧ some b ≠ sv.ownBlock) ∧ b < wr.heap.size) ∧ w1.heap.size ≤ b) (fun b hb1 hb2 => ⟨⟨hb2.1, hb1⟩, hb2.2⟩) (fun h3 => h3.1.1.1 hd)).later b2
      have h3 := hKS h2 (fun b h3 h4 => ⟨h3.1.1.2, fun h5 => h3.1.1.1 (h5 ▸ hbm)⟩) ⟨fun h3 => (h.own _ h3).1 hd, hnb⟩
      refine h3.mono (fun b _ hb2 => ⟨⟨fun h4 => ?_, hnr b (by omega) hb2.1.1.2⟩, hb2.2⟩) (fun h4 => h4.1.1 ((hD _).2 (.inl hd)))
      rcases (hD b).1 h4 with h5 | h5
      · exact hb2.1.1.1 h5
      · omega
    · have ej : j = sh.length := by simp at hj; omega
      subst ej
      have e1 : (sh ++ [(sb, hk)]).getD sh.length (0, 0) = (sb, hk) := by rw [List.getD, List.getElem?_append_right (Nat.le_refl _), Nat.sub_self]; rfl
      rw [e1]
      have hnk : some hk ≠ sv.ownBlock := fun h3 => by have := (h.own _ h3).2.2; omega
      have h2 := hT.mono (S' := fun b => (wr.heap.size ≤ b ∧ b ≠ hk) ∧ b < w2.heap.size) (fun b hb1 hb2 => ⟨hb2, hb1⟩) (fun h3 => h3.1.2 rfl)
      have h3 := hKS h2 (fun b h3 h4 => ⟨fun h5 => by have := (h.own _ h5).2.2; omega, fun h5 => by omega⟩) ⟨hnk, fun h5 => by omega⟩
      have e2 : os.getD sh.length [] = os.getD sh.length [] := rfl
      refine h3.mono (fun b _ hb2 => ⟨⟨fun h4 => ?_, hnr b hb2.2 (fun h5 => by have := (h.own _ h5).2.2; omega)⟩, by have := h.bel.size; omega⟩) (fun h4 => h4.1.1 ((hD _).2 (.inr rfl)))
      rcases (hD b).1 h4 with h5 | h5
      · have := (h.lt b h5).2; omega
      · exact hb2.1.2 h5
  · exact (h.bel.trans (b2.mono h.bel.size)).trans ((k3.below (n := w1.heap.size) (by have := h.bel.size; omega) (fun b e => (h.own b e).2.1)).trans (kS.below (by have := h.bel.size; omega) (fun b e => by rw [e]; exact hlb.1)))
end Go.Proofs.YthcljhfankooaabGreat

namespace Go.Proofs.YthcljhfankooaabGreat
open Go.RowKit Go.Shelf

theorem row_own {base : Nat} {S : Nat → Prop} {w : World} {e : TypeId} {v : Value} {n : Nat} {vs : List Value} {f : Nat → Value} (h : w.ownsRow base e 1 v n vs) (hf : ∀ j, j < n → vs[j]? = some (f j)) (hS : ∀ b, some b = v.ownBlock → S b) : Row S w v n f := by
  rcases h.2 with ⟨rfl, h0⟩ | ⟨g, cap, cur, rfl, hb, hg, hn, hm, hs, ht⟩
  · subst h0; exact Row.nil _ _ _
  · refine ⟨_, cap, rfl, hn, by unfold maxLen at hm; omega, fun j hj => ⟨g, 0, rfl, hS g rfl, ?_⟩⟩
    have := World.ownsRow.cellAt h j (by omega)
    rw [Nat.zero_add, this, hf j hj]
theorem own_shape {base : Nat} {w : World} {e : TypeId} {v : Value} {n : Nat} {vs : List Value} (h : w.ownsRow base e 1 v n vs) : ∃ a c, v = .slice a n c := by
  rcases h.2 with ⟨rfl, h0⟩ | ⟨g, cap, cur, rfl, _⟩
  · subst h0; exact ⟨_, _, rfl⟩
  · exact ⟨_, _, rfl⟩
/-- All sets are made. -/
theorem NewAt.held [Xt] {w1 wr : World} {hb mb wd : Nat} {ov sv : Value} {os : List (List Int)} {sh : List (Nat × Nat)} (h : NewAt w1 wr hb mb wd ov sv os sh) (hlen : sh.length = os.length) (hpos : 0 < os.length) (hw : wd ≤ 8) (hok : ∀ o ∈ os, right o = true ∧ o.length = wd) {B : Nat → Prop} (hL : ListAt B w1 ov os) (hBX : ∀ b, B b → ¬ Xt.x b) (hX : ∀ b, Xt.x b → b < w1.heap.size) : HAt wr hb mb sh wd os [] where
  nd := h.nd
  wd8 := hw
  len := hlen
  pos := hpos
  ok := hok
  mem := by
    refine ⟨ov, sv, h.blk, (hL.mono (fun b hb1 hb2 => ⟨fun hn => by have := (h.lt b hn).1; omega, hBX b hb2⟩)).later h.bel, ?_⟩
    · refine row_own (hlen ▸ h.row) (fun j hj => ?_) (fun b e => ⟨(h.own b e).1, fun hx => by have := hX b hx; have := (h.own b e).2.1; omega⟩)
      have hj' : j < sh.length := by omega
      rw [List.getElem?_map, List.getElem?_eq_getElem hj', List.getD_eq_getElem?_getD, List.getElem?_eq_getElem hj']
      rfl
  sets := fun j hj => ⟨[], (h.sets j (by omega)).mono (fun b _ hs => ⟨hs.1.1, fun hx => by have := hX b hx; have := hs.2; omega⟩) (fun hs => hs.1 (by
    have := sh_in (sh := sh) hlen hj
    simp only [Dk, List.mem_cons]; exact .inr (.inr this))), fun x => by simp [nKeys], rfl⟩
  map := ⟨#[], 0, h.map, rfl⟩
  keys := ⟨by simp [nKeys], fun p hp => by cases hp⟩
  ext := fun b hx => Nat.lt_of_lt_of_le (hX b hx) h.bel.size

theorem least_le {l : List Int} {n : Nat} (h : C.IsLeast l n) : n ≤ l.length + 1 := by
  obtain ⟨W, h1, _, hn, ps, _, h3⟩ := h
  have := C.nodup_le W (0 :: l) hn (fun x hx => by rw [List.mem_cons]; exact (h1 x).1 hx)
  rw [List.length_cons] at this
  omega
theorem makeMap_run (w : World) : (Instr.makeMap 60 none).run Tryz.prog w = .ok (.map (some w.heap.size)) (w.alloc (.map #[] 0)) := by
  unfold Instr.makeMap
  rfl

/-- What New gives. -/
def NewOk [Xt] (w : World) (wd : Nat) (e : Ending) (w' : World) : Prop := ∃ rb hb mb sh os, e = .returned (.tuple #[.pointer (some ⟨rb, 0, none⟩), .int .i64 0]) ∧ RelAt w' rb hb mb sh wd os [] ∧ (∀ b ∈ Dk hb mb sh, w.heap.size ≤ b) ∧ w.heap.size ≤ rb ∧ Below w.heap.size w w'

set_option maxRecDepth 100000 in
set_option maxHeartbeats 4000000 in
theorem relnew_ok [Xt] (w : World) (wd : Nat) (v : Value) (l : List Int) (h : Ints w.heap.size w v l) (hw : wd ≤ 8) (hl : C.lookE wd l = 0) (hX : ∀ b, Xt.x b → b < w.heap.size) :
    Calls Tryz.prog 5 #[.int .i64 (wd : Int), v] w fun e w' => NewOk w wd e w' := by
  have ho := C.orders_ok w wd v l h hw hl
  have hl256 := (C.look_zero hl hw).1
  obtain ⟨va, vc, rfl, _⟩ := id h
  have HX := hide hX
  clear h hl hX
  go_enter Tryz.func5, Tryz.ntmps5
  go_wp2_with fail
  refine ho.mono ?_
  clear ho
  rintro e w1 ⟨r, os, rfl, hOL, hleast, hok, _, b1⟩
  have hL : ListAt (fun b => w.heap.size ≤ b) w1 r os := hOL.list
  obtain ⟨ra, rc, rfl⟩ : ∃ a c, r = .slice a os.length c := by obtain ⟨_, ⟨a, c, e, _⟩, _⟩ := id hL; exact ⟨a, c, e⟩
  have hpos := least_pos hleast
  have hmany := least_le hleast
  have HL := hide (And.intro hL (And.intro hok (And.intro hpos b1)))
  clear hOL hleast hL hok b1
  obtain ⟨W0, hW0⟩ : ∃ W0, W0 = (w1.alloc (.map #[] 0)).alloc (.cells #[.int .i64 (wd : Int), .slice ra os.length rc, .slice none 0 0, .map (some w1.heap.size)] 63) := ⟨_, rfl⟩
  have hz0 : W0.heap.size = w1.heap.size + 2 := by rw [hW0]; simp
  have b0 : Below w1.heap.size w1 W0 := by rw [hW0]; exact ((Below.refl _ w1).alloc (Nat.le_refl _) _).alloc (by simp) _
  have m0 : W0.heap[w1.heap.size]? = some (.map #[] 0) := by
    rw [hW0]
    exact (((Below.refl _ (w1.alloc (.map #[] 0))).alloc (Nat.le_refl _) _).block _ (by simp)).trans (World.alloc_heap_new w1 _)
  have h0 : W0.heap[w1.heap.size + 1]? = some (.cells #[.int .i64 (wd : Int), .slice ra os.length rc, .slice none 0 0, .map (some w1.heap.size)] 63 (0, 0)) := by
    have := World.alloc_heap_new (w1.alloc (.map #[] 0)) (.cells #[.int .i64 (wd : Int), .slice ra os.length rc, .slice none 0 0, .map (some w1.heap.size)] 63)
    rw [World.size_alloc] at this
    rw [hW0]; exact this
  have HS : Hid (NewR w1 (w1.heap.size + 1) w1.heap.size wd (.slice ra os.length rc) os (.int .i64 0) W0) := ⟨[], .slice none 0 0, Nat.zero_le _, rfl, ⟨h0, m0, World.ownsRow_nil _ _ _ _, fun b e => (by cases e), by simp [Dk], fun b hb => by simp [Dk] at hb; omega, fun j hj => absurd hj (by simp), b0⟩⟩
  clear hz0 b0 m0 h0
  have HW := hide hW0
  have hmk := makeMap_run w1
  clear hW0
  go_wp2_with fail
  rw [← unhide HW]
  go_loopw [29] (fun i wr => NewR w1 (w1.heap.size + 1) w1.heap.size wd (.slice ra os.length rc) os i wr) (fun i _ => os.length - (intOf i).toNat)
  case atStart => exact unhide HS
  case round =>
    obtain ⟨sh, sv, hsl, rfl, hN⟩ := hrel
    obtain ⟨hL, hok, hpos, b1⟩ := unhide HL
    by_cases hlt : sh.length < os.length
    · obtain ⟨f, hrow, hin⟩ := hL.later hN.bel
      obtain ⟨g, off, e1, hcell⟩ := row_in hrow hlt
      subst e1
      have hor := hin sh.length hlt
      obtain ⟨oa, oc, eo, _⟩ := id hor
      rw [eo] at hcell hor
      have hri : right (os.getD sh.length []) = true := by
        rw [List.getD_eq_getElem?_getD, List.getElem?_eq_getElem hlt]
        exact (hok _ (List.getElem_mem hlt)).1
      have hnew := new_T2 wr _ _ hor.ints hri
      have HN := hide hN
      have hj : (sh.length : Int) < (os.length : Int) := by omega
      generalize hon : (os.getD sh.length []).length = on at hcell hor hnew
      clear hN hL hok hrow hin hor eo hri hon
      go_wp2_with fail
      refine hnew.mono ?_
      clear hnew
      rintro e w2 ⟨sb, rfl, ⟨hk, hT, hge⟩, b2⟩
      have hN := unhide HN
      have hlh := hN.lt (w1.heap.size + 1) (by simp [Dk])
      have hc2 : w2.cell? ⟨w1.heap.size + 1, 2, none⟩ = some sv := by rw [cell_at ((b2.block _ hlh.2).trans hN.blk)]; rfl
      have hrow2 : w2.ownsRow (w1.heap.size + 2) 64 1 sv sh.length (sh.map fun p => .pointer (some ⟨p.1, 0, none⟩)) := ownsRow_stay hN.row (Keeps.of_below b2 (O := fun _ => False)) (fun _ _ e => e)
      obtain ⟨r3, w3, hrun3, hrow3, k3, hr3⟩ := appS_run w2 sv (.pointer (some ⟨sb, 0, none⟩)) sh.length _ hrow2 rfl (by have := hN.bel.size; have := b2.size; have := hlh; omega) (by omega)
      have hr3' : ∀ b, some b = r3.ownBlock → (some b = sv.ownBlock ∨ w2.heap.size ≤ b) ∧ b < w3.heap.size := fun b e => ⟨hr3 b e, (hrow3.lt b e.symm).2⟩
      have hne : ∀ b, some b = sv.ownBlock → b ≠ w1.heap.size + 1 := fun b e e' => (hN.own b e).1 (e' ▸ (by simp [Dk]))
      have hblk3 : w3.heap[w1.heap.size + 1]? = some (.cells #[.int .i64 (wd : Int), .slice (some ⟨g, off, none⟩) os.length rc, sv, .map (some w1.heap.size)] 63 (0, 0)) := k3.same _ _ ((b2.block _ hlh.2).trans hN.blk) (fun e => hne _ e rfl)
      have hc3 : w3.cell? ⟨w1.heap.size + 1, 2, none⟩ = some sv := by rw [cell_at hblk3]; rfl
      have hf3 : w3.frozen? ⟨w1.heap.size + 1, 2, none⟩ = false := by simp [World.frozen?, hblk3]
      obtain ⟨r3a, r3c, er3⟩ := own_shape hrow3
      have HM : Hid (NewAt w1 (w3.setCell ⟨w1.heap.size + 1, 2, none⟩ r3) (w1.heap.size + 1) w1.heap.size wd (.slice (some ⟨g, off, none⟩) os.length rc) r3 os (sh ++ [(sb, hk)])) := hN.more hT hge b2 hrow3 k3 hr3'
      subst er3
      have HRUN := hide hrun3
      clear hT hge b2 hrow2 hrun3 hrow3 k3 hr3 hr3' hne hblk3 hlh hN
      go_wp2_with (at_builtin; refine C.wpList_append_run _ rfl _ _ 61 rfl _ _ rfl rfl _ _ (unhide HRUN) ?_)
      go_roundw
      case rel => exact ⟨sh ++ [(sb, hk)], _, by simp; omega, by simp, unhide HM⟩
      case measure => simp [intOf]; omega
    · have hln : sh.length = os.length := by omega
      have hg : ¬ ((sh.length : Int) < (os.length : Int)) := by omega
      have hX := unhide HX
      have hH := hN.held hln hpos hw hok hL (fun b hb hx => by have := hX b hx; omega) (fun b hx => Nat.lt_of_lt_of_le (hX b hx) b1.size)
      have HH := hide (And.intro hH (And.intro hN b1))
      clear hL hok hpos b1 hN hH hX
      go_wp2_with fail
      go_ret2
      obtain ⟨hH, hN, b1⟩ := unhide HH
      have hsz1 := b1.size
      have hszr := hN.bel.size
      have ba : Below wr.heap.size wr (wr.alloc (.cells #[.pointer (some ⟨w1.heap.size + 1, 0, none⟩)] 47)) := (Below.refl _ wr).alloc (Nat.le_refl _) _
      refine ⟨wr.heap.size, w1.heap.size + 1, w1.heap.size, sh, os, rfl, ⟨hH.later ba, World.alloc_heap_new wr _, fun hn => by have := (hN.lt _ hn).2; omega, fun hx => by have := unhide HX _ hx; omega⟩, fun b hb => by have := (hN.lt b hb).1; omega, by omega, b1.trans ((hN.bel.mono hsz1).trans (ba.mono (by omega)))⟩
end Go.Proofs.YthcljhfankooaabGreat
