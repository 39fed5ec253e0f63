/- The document's Insert. -/
import Derived.Test.YtmjlhmhkbfnccaaRefs2
namespace Go.Proofs.Ytmjlhmhkbfnccaa
open Go.RowKit Go.Shelf Go.Maps

theorem own_keep {base : Nat} {A B : World} {v : Value} {n : Nat} {vs : List Value} (h : A.ownsRow base 22 1 v n vs) (hg : A.grownBy B v.ownBlock) : Keeps (fun b => base ≤ b) A B := by
  refine keeps_grown hg (fun b hb => ?_)
  rcases h.2 with ⟨rfl, _⟩ | ⟨g, cap, cur, rfl, hgb, _⟩
  · simp [Value.ownBlock] at hb
  · simp only [Value.ownBlock, Option.some.injEq] at hb
    omega
theorem own_later {base : Nat} {A B : World} {e : TypeId} {size : Nat} {v : Value} {n : Nat} {vs : List Value} (h : A.ownsRow base e size v n vs) (hb : Below A.heap.size A B) : B.ownsRow base e size v n vs := by
  refine ⟨h.1, ?_⟩
  rcases h.2 with h | ⟨g, cap, cur, h1, h2, h3, h4⟩
  · exact .inl h
  · exact .inr ⟨g, cap, cur, h1, h2, (hb.block _ (lt_heap h3)).trans h3, h4⟩
theorem own_inside {base : Nat} {A : World} {e : TypeId} {size : Nat} {v : Value} {n : Nat} {vs : List Value} (h : A.ownsRow base e size v n vs) : ∀ b, some b = v.ownBlock → b < A.heap.size := fun b hb => by
  rcases h.2 with ⟨rfl, _⟩ | ⟨g, cap, cur, rfl, _, h3, _⟩
  · simp [Value.ownBlock] at hb
  · simp only [Value.ownBlock, Option.some.injEq] at hb
    rw [hb]
    exact lt_heap h3

set_option maxRecDepth 100000 in
set_option maxHeartbeats 4000000 in
theorem rinsert_any (S : Nat → Prop) (w : World) (rb : Nat) (o x : List Int) (xs : List (List Int)) (xv : Value) (h : RSetAt S w rb o xs) (ho : right o = true) (hU : Up o xs) (hx : Ints w.heap.size w xv x) (hnew : NewIn S w) :
    Calls Try.prog 26 #[.pointer (some ⟨rb, 0, none⟩), xv] w fun e w' => e = .returned (.tuple #[.bool (insBL o x xs), .int .i64 (insEL o x xs)]) ∧ RSetAt S w' rb o (insTo o x xs) ∧ Keeps (fun b => b = rb) w w' := by
  have hhas := rhas_any S w rb o x xs xv h ho hU hx
  obtain ⟨ov, tv, hh, hov, hL, hnil⟩ := h.cells
  obtain ⟨oa, oc, rfl, _⟩ := id hov
  obtain ⟨xa, xc, rfl, _⟩ := id hx
  obtain ⟨f, ⟨a, cap, etv, hc1, hc2, hf⟩, hfi⟩ := id hL
  subst etv
  obtain ⟨c0, c1, _⟩ := two_cells hh
  have HH := hide h
  have HX := hide hx
  have HU := hide (And.intro ho hU)
  have HNEW := hide hnew
  have HF := hide (And.intro hf hfi)
  have HHH := hide hh
  have h1024 := hU.2.2.1
  have hlt0 := lt_heap hh
  clear h hx ho hU hnew hf hfi hov hL hh
  cases hfit : fitB o x with
  | false =>
    have hne : ((x.length : Int) != (o.length : Int)) = true := by show (!((x.length : Int) == (o.length : Int))) = true; rw [show ((x.length : Int) == (o.length : Int)) = false from hfit]; rfl
    have HFIT := hide hfit
    clear hfit hhas
    go_enter Try.func26, Try.ntmps26
    go_wp2_with fail
    go_ret2
    have e1 : insBL o x xs = false := by simp [insBL, unhide HFIT]
    exact ⟨tupBE e1.symm (by simp [insEL, unhide HFIT]), by rw [insTo, if_neg (by simp [e1])]; exact unhide HH, Keeps.refl (fun b => b = rb) w⟩
  | true =>
  have hne : ((x.length : Int) != (o.length : Int)) = false := by show (!((x.length : Int) == (o.length : Int))) = false; rw [show ((x.length : Int) == (o.length : Int)) = true from hfit]; rfl
  have HFIT := hide hfit
  rw [hfit, Bool.true_and] at hhas
  clear hfit
  cases hcon : xs.contains x with
  | true =>
    rw [hcon] at hhas
    have HCON := hide hcon
    clear hcon
    go_enter Try.func26, Try.ntmps26
    go_wp2_with fail
    refine hhas.mono ?_
    clear hhas
    rintro e w1 ⟨rfl, b1⟩
    have HB1 := hide b1
    clear b1
    go_wp2_with fail
    go_ret2
    have e1 : insBL o x xs = false := by rw [insBL, unhide HCON]; simp
    exact ⟨tupBE e1.symm (by rw [insEL, if_pos (unhide HFIT), if_pos (unhide HCON)]), by rw [insTo, if_neg (by simp [e1])]; exact (unhide HH).later (unhide HB1), Keeps.of_below (unhide HB1)⟩
  | false =>
  rw [hcon] at hhas
  have HCON := hide hcon
  clear hcon
  by_cases hfull : xs.length < 1024
  case neg =>
    have hg : (1024 : Int) ≤ (xs.length : Int) := by omega
    have HFULL := hide hfull
    clear hfull
    go_enter Try.func26, Try.ntmps26
    go_wp2_with fail
    refine hhas.mono ?_
    clear hhas
    rintro e w1 ⟨rfl, b1⟩
    have g1 := (b1.cell (p := ⟨rb, 1, none⟩) hlt0).trans c1
    have HB1 := hide b1
    clear b1
    go_wp2_with fail
    go_ret2
    have e1 : insBL o x xs = false := by rw [insBL, decide_eq_false (unhide HFULL)]; simp
    exact ⟨tupBE e1.symm (by rw [insEL, if_pos (unhide HFIT), if_neg (by rw [unhide HCON]; simp), if_neg (unhide HFULL)]), by rw [insTo, if_neg (by simp [e1])]; exact (unhide HH).later (unhide HB1), Keeps.of_below (unhide HB1)⟩
  case pos =>
  have hg : ¬ ((1024 : Int) ≤ (xs.length : Int)) := by omega
  have e1 : insBL o x xs = true := by rw [insBL, unhide HFIT, unhide HCON, decide_eq_true hfull]; rfl
  have e2 : insEL o x xs = 0 := by rw [insEL, if_pos (unhide HFIT), if_neg (by rw [unhide HCON]; simp), if_pos hfull]
  have e3 : insTo o x xs = insX o x xs := by rw [insTo, if_pos e1]
  have HE := hide (And.intro e1 (And.intro e2 e3))
  clear e1 e2 e3
  go_enter Try.func26, Try.ntmps26
  go_wp2_with fail
  refine hhas.mono ?_
  clear hhas
  rintro e w1 ⟨rfl, b1⟩
  have g1 := (b1.cell (p := ⟨rb, 1, none⟩) hlt0).trans c1
  have hat := rat_any S w1 rb o x xs _ ((unhide HH).later b1) (((unhide HX).below b1 (Nat.le_refl _)).mono b1.size)
  have HB1 := hide b1
  clear b1
  have hnl := atN_le o x xs
  obtain ⟨n, hne'⟩ : ∃ n, n = atN o x xs := ⟨_, rfl⟩
  rw [← hne'] at hat hnl
  have HN := hide hne'
  clear hne'
  go_wp2_with fail
  refine hat.mono ?_
  clear hat
  rintro e w4 ⟨rfl, b4⟩
  have b04 := (unhide HB1).trans (b4.mono (unhide HB1).size)
  have hs04 := b04.size
  have g4 := (b04.cell (p := ⟨rb, 1, none⟩) hlt0).trans c1
  obtain ⟨q0, q1, _, qf⟩ := two_cells ((b04.block _ hlt0).trans (unhide HHH))
  have hwid : x.length * 8 ≤ 140737488355328 := by have := fitB_true.1 (unhide HFIT); have := (right_in (unhide HU).1).1; omega
  have hx4 := ((unhide HX).below b04 (Nat.le_refl _)).mono hs04
  have HB04 := hide b04
  obtain ⟨i0, hi0, hz0, hz1, hz2⟩ := infoT
  have ht : Try.prog.underlying 32 = some (.slice 22) := by kernel_rfl
  clear b4 b04 g1 c0 c1
  by_cases hxs : xs = []
  case pos =>
    subst hxs
    have etv := hnil rfl
    simp only [Value.slice.injEq] at etv
    obtain ⟨ea, _, ec⟩ := etv
    subst ea ec
    have hn0 : n = 0 := by simpa using hnl
    subst hn0
    obtain ⟨r, w6, hrun2, hown2, b6⟩ := appI_run w4 _ x hx4 hwid
    obtain ⟨ra, rc, er, _⟩ := id hown2.intsS
    subst er
    obtain ⟨v2, w8, hrun3, hown3, hgr3, _⟩ := run_append_own (P := Try.prog) (w6.alloc (.cells #[.slice ra x.length rc] 22)) w4.heap.size 32 32 22 i0 (.slice none 0 0) 1 24 ht hi0 hz0 hz1 hz2 rfl (by decide) (.slice none 0 0) 0 [] (World.ownsRow_nil _ _ _ _) ⟨w6.heap.size, 0, none⟩ 1 1 [.slice ra x.length rc] rfl (cell_one_new _ _ _) (by simp [Value.oneCell']) (by unfold maxLen; omega) (by omega) (by have := b6.size; simp; omega)
    obtain ⟨g, cap2, ev2⟩ := ownsRow_succ (k := 0) (by simpa using hown3)
    subst ev2
    have hcap2 : 1 ≤ cap2 := by
      rcases hown3.2 with ⟨e, _⟩ | ⟨_, _, _, e, _, _, hle, _⟩
      · cases e
      · simp only [Value.slice.injEq] at e
        omega
    have b68 : Below w6.heap.size w6 w8 := ((Below.refl _ w6).alloc (Nat.le_refl _) _).grown hgr3 (by simp) (fun k e => by cases e)
    have b48 := b6.trans (b68.mono b6.size)
    have q8 := two_cells ((b48.block _ (by omega)).trans (((unhide HB04).block _ hlt0).trans (unhide HHH)))
    obtain ⟨p0, p1, _, p3⟩ := q8
    have HR1 := hide (app_nilT w4)
    have HR2 := hide hrun2
    have HR3 := hide hrun3
    have HR4 := hide (app_oneT w8 g cap2 hcap2)
    have HFIN : Hid (RSetAt S (w8.setCell ⟨rb, 1, none⟩ (.slice (some ⟨g, 0, none⟩) 1 cap2)) rb o (insX o x []) ∧ Keeps (fun b => b = rb) w (w8.setCell ⟨rb, 1, none⟩ (.slice (some ⟨g, 0, none⟩) 1 cap2))) :=
      rins_done (f := f) (r := .slice ra x.length rc) (unhide HH) (fun j hj => (unhide HF).2 j hj) (unhide HB04) b48 (unhide HNEW) (hown2.intsS.later b68) (by simpa [valsR, atN] using hown3)
    clear hrun2 hrun3 hown2 hown3 hgr3 b6 b68 b48 hx4
    go_wp2_with (at_builtin; first
      | (refine wpList_append_run _ rfl _ _ 32 rfl _ _ rfl rfl _ _ (unhide HR1) ?_; clear HR1)
      | (refine wpList_append_run _ rfl _ _ 22 rfl _ _ rfl rfl _ _ (unhide HR2) ?_; clear HR2)
      | (refine wpList_append_run _ rfl _ _ 32 rfl _ _ rfl rfl _ _ (unhide HR3) ?_; clear HR3)
      | (refine wpList_append_run _ rfl _ _ 32 rfl _ _ rfl rfl _ _ (unhide HR4) ?_; clear HR4))
    go_ret2
    exact ⟨tupBE (unhide HE).1.symm (unhide HE).2.1.symm, by rw [(unhide HE).2.2]; exact (unhide HFIN).1, (unhide HFIN).2⟩
  case neg =>
  have hlen : 0 < xs.length := List.length_pos_iff.2 hxs
  obtain ⟨b, off, ea, _, _⟩ := (unhide HF).1 0 hlen
  subst ea
  have HROW : Hid (∀ j, j < xs.length → w4.cell? ⟨b, off + j, none⟩ = some (f j)) := fun j hj => by
    obtain ⟨b', off', e, _, hc⟩ := (unhide HF).1 j hj
    cases e
    obtain ⟨_, hz, _⟩ := cells_of_cell hc
    exact ((unhide HB04).cell (p := ⟨b, off + j, none⟩) (lt_heap hz)).trans hc
  have h1c : ∀ j, j < xs.length → (f j).oneCell' = true := fun j hj => by
    obtain ⟨ja, jc, e, _⟩ := (unhide HF).2 j hj
    rw [e]; rfl
  clear hxs hnil
  -- the first row
  obtain ⟨v1, w5, hrun1, hown1, hgr1, _⟩ := run_append_own (P := Try.prog) w4 w4.heap.size 32 32 22 i0 (.slice none 0 0) 1 24 ht hi0 hz0 hz1 hz2 rfl (by decide) (.slice none 0 0) 0 [] (World.ownsRow_nil _ _ _ _) ⟨b, off, none⟩ n cap ((List.range n).map f) (by simp) (fun j u hj => by
    rw [List.getElem?_map, Option.map_eq_some_iff] at hj
    obtain ⟨j', hj', rfl⟩ := hj
    obtain ⟨hjl, rfl⟩ := List.getElem?_eq_some_iff.1 hj'
    simp only [List.length_range] at hjl
    rw [Addr.add_lit, List.getElem_range]
    exact unhide HROW j (by omega)) (fun u hu => by
    obtain ⟨j, hj, rfl⟩ := List.mem_map.1 hu
    exact h1c j (by have := List.mem_range.1 hj; omega)) (by unfold maxLen; omega) (by omega) (Nat.le_refl _)
  rw [Nat.zero_add, List.nil_append] at hown1
  have b45 : Below w4.heap.size w4 w5 := (Below.refl _ w4).grown hgr1 (Nat.le_refl _) (fun k e => by cases e)
  have hs45 := b45.size
  obtain ⟨r, w6, hrun2, hown2, b6⟩ := appI_run w5 _ x ((hx4.below b45 (Nat.le_refl _)).mono hs45) hwid
  have hs56 := b6.size
  obtain ⟨ra, rc, er, _⟩ := id hown2.intsS
  subst er
  have b67 : Below w6.heap.size w6 (w6.alloc (.cells #[.slice ra x.length rc] 22)) := (Below.refl _ w6).alloc (Nat.le_refl _) _
  have hown1' : (w6.alloc (.cells #[.slice ra x.length rc] 22)).ownsRow w4.heap.size 22 1 v1 n ((List.range n).map f) := own_later (own_later hown1 b6) b67
  obtain ⟨v2, w8, hrun3, hown3, hgr3, _, hat3⟩ := run_append_own_at (P := Try.prog) (w6.alloc (.cells #[.slice ra x.length rc] 22)) w4.heap.size 32 32 22 i0 (.slice none 0 0) 1 24 ht hi0 hz0 hz1 hz2 rfl (by decide) v1 n ((List.range n).map f) hown1' ⟨w6.heap.size, 0, none⟩ 1 1 [.slice ra x.length rc] rfl (cell_one_new _ _ _) (by simp [Value.oneCell']) (by unfold maxLen; omega) (by omega) (by simp; omega)
  have hK78 := own_keep hown1' hgr3
  have hs78 := hK78.size
  have hs67 := b67.size
  have b78 : Below w4.heap.size (w6.alloc (.cells #[.slice ra x.length rc] 22)) w8 := hK78.below (by omega) (fun b hb => hb)
  have b48 : Below w4.heap.size w4 w8 := ((b45.trans (b6.mono hs45)).trans (b67.mono (by omega))).trans b78
  have hcell8 : ∀ j, j < xs.length → w8.cell? ⟨b, off + j, none⟩ = some (f j) := fun j hj => by
    have hc := unhide HROW j hj
    obtain ⟨_, hz, _⟩ := cells_of_cell hc
    exact (b48.cell (p := ⟨b, off + j, none⟩) (lt_heap hz)).trans hc
  -- the tuple's copy lies apart from the rows
  have hr8 : IntsS (fun q => w5.heap.size ≤ q ∧ q < (w6.alloc (.cells #[.slice ra x.length rc] 22)).heap.size) w8 (.slice ra x.length rc) x := by
    have h7 := (hown2.intsS.later b67).mono (S' := fun q => w5.heap.size ≤ q ∧ q < (w6.alloc (.cells #[.slice ra x.length rc] 22)).heap.size) (fun q h1 h2 => ⟨h2, h1⟩)
    refine h7.stays ((keeps_grown (O := fun q => some q = v1.ownBlock) hgr3 (fun _ h => h)).stays (fun q _ hq e => ?_))
    have := own_inside hown1 q e
    omega
  have hlt2 := own_inside hown3
  have hat3' : ∀ q, some q = v2.ownBlock → q < w5.heap.size ∨ (w6.alloc (.cells #[.slice ra x.length rc] 22)).heap.size ≤ q := fun q hq => by
    rcases hat3 with e | e
    · exact .inl (own_inside hown1 q (by rw [← e]; exact hq))
    · right
      rw [e] at hq
      simp only [Option.some.injEq] at hq
      omega
  obtain ⟨g2, cap2, ev2⟩ := ownsRow_succ hown3
  subst ev2
  have FIN : Hid (∀ v3 w9, w9.ownsRow w4.heap.size 22 1 v3 (n + 1 + (xs.length - n)) (((List.range n).map f ++ [.slice ra x.length rc]) ++ (List.range (xs.length - n)).map (fun j => f (n + j))) → w8.grownBy w9 (Value.slice (some ⟨g2, 0, none⟩) (n + 1) cap2).ownBlock →
      (RSetAt S (w9.setCell ⟨rb, 1, none⟩ v3) rb o (insX o x xs) ∧ Keeps (fun b => b = rb) w (w9.setCell ⟨rb, 1, none⟩ v3)) ∧ w9.cell? ⟨rb, 0, none⟩ = some (.slice oa o.length oc) ∧ w9.cell? ⟨rb, 1, none⟩ = some (.slice (some ⟨b, off, none⟩) xs.length cap) ∧ w9.frozen? ⟨rb, 1, none⟩ = false) := fun v3 w9 ho4 hg4 => by
    have hK89 := own_keep hown3 hg4
    have b49 : Below w4.heap.size w4 w9 := b48.trans (hK89.below (by omega) (fun b hb => hb))
    have hr9 : IntsS (fun q => w4.heap.size ≤ q) w9 (.slice ra x.length rc) x := by
      refine (hr8.stays ((keeps_grown (O := fun q => some q = (Value.slice (some ⟨g2, 0, none⟩) (n + 1) cap2).ownBlock) hg4 (fun _ h => h)).stays (fun q _ hq e => ?_))).mono (fun q _ hq => by omega)
      rcases hat3' q e with h | h
      · omega
      · omega
    have hd := rins_done (f := f) (r := .slice ra x.length rc) (unhide HH) (fun j hj => (unhide HF).2 j hj) (unhide HB04) b49 (unhide HNEW) hr9 (v3 := v3) (by
      rw [← unhide HN]
      have e : n + 1 + (xs.length - n) = xs.length + 1 := by omega
      rw [e] at ho4
      exact ho4)
    obtain ⟨p0, p1, _, p3⟩ := two_cells ((b49.block _ (by omega)).trans (((unhide HB04).block _ hlt0).trans (unhide HHH)))
    exact ⟨hd, p0, p1, p3⟩
  have CELLS : Hid (∀ j u, ((List.range (xs.length - n)).map (fun j => f (n + j)))[j]? = some u → w8.cell? ((⟨b, off + n, none⟩ : Addr).add j) = some u) := fun j u hj => by
    rw [List.getElem?_map, Option.map_eq_some_iff] at hj
    obtain ⟨j', hj', rfl⟩ := hj
    obtain ⟨hjl, rfl⟩ := List.getElem?_eq_some_iff.1 hj'
    simp only [List.length_range] at hjl
    rw [Addr.add_lit, List.getElem_range, Nat.add_assoc]
    exact hcell8 (n + j) (by omega)
  have ONES : Hid (∀ u ∈ (List.range (xs.length - n)).map (fun j => f (n + j)), u.oneCell' = true) := fun u hu => by
    obtain ⟨j, hj, rfl⟩ := List.mem_map.1 hu
    exact h1c _ (by have := List.mem_range.1 hj; omega)
  obtain ⟨z0, z1, _, z3⟩ := two_cells ((b48.block _ (by omega)).trans (((unhide HB04).block _ hlt0).trans (unhide HHH)))
  have HR1 := hide hrun1
  have HR2 := hide hrun2
  have HR3 := hide hrun3
  have HO3 := hide hown3
  have hsz8 : w4.heap.size ≤ w8.heap.size := b48.size
  have hm1 : n + 1 + (xs.length - n) ≤ maxLen := by unfold maxLen; omega
  have hm2 : (n + 1 + (xs.length - n)) * 24 ≤ 140737488355328 := by omega
  clear hrun1 hrun2 hrun3 hown1 hown1' hown2 hown3 hgr1 hgr3 hat3 hat3' hr8 hK78 b45 b6 b67 b78 b48 hx4 hcell8 h1c HROW hlt2 hs78 hs67 hs56
  by_cases hcn : n < cap
  case pos =>
    have hcn2 : ¬ (cap - n = 0) := by omega
    have hcn3 : ¬ (cap = n) := by omega
    go_wp2_with (at_builtin; first
      | (refine wpList_append_run _ rfl _ _ 32 rfl _ _ rfl rfl _ _ (unhide HR1) ?_; clear HR1)
      | (refine wpList_append_run _ rfl _ _ 22 rfl _ _ rfl rfl _ _ (unhide HR2) ?_; clear HR2)
      | (refine wpList_append_run _ rfl _ _ 32 rfl _ _ rfl rfl _ _ (unhide HR3) ?_; clear HR3)
      | (refine wpList_append_own _ rfl _ _ 32 rfl w4.heap.size 22 i0 (.slice none 0 0) 1 24 ht hi0 hz0 hz1 hz2 rfl (by decide) _ _ _ rfl (unhide HO3) _ (xs.length - n) _ ((List.range (xs.length - n)).map (fun j => f (n + j))) rfl (by simp) (unhide CELLS) (unhide ONES) hm1 hm2 hsz8 ?_; intro v3 w9 hown4 hgr4 hnil4; obtain ⟨HF9, p0, p1, p3⟩ := unhide FIN v3 w9 hown4 hgr4; obtain ⟨g3, cap3, ev3⟩ := ownsRow_succ (k := xs.length) (by rw [show xs.length + 1 = n + 1 + (xs.length - n) by omega]; exact hown4); subst ev3; have HF9' := hide HF9; clear HF9 hown4 hgr4 hnil4))
    all_goals
      go_ret2
      exact ⟨tupBE (unhide HE).1.symm (unhide HE).2.1.symm, by rw [(unhide HE).2.2]; exact (unhide HF9').1, (unhide HF9').2⟩
  case neg =>
    have hcn2 : cap - n = 0 := by omega
    have hcn3 : cap ≤ n := by omega
    go_wp2_with (at_builtin; first
      | (refine wpList_append_run _ rfl _ _ 32 rfl _ _ rfl rfl _ _ (unhide HR1) ?_; clear HR1)
      | (refine wpList_append_run _ rfl _ _ 22 rfl _ _ rfl rfl _ _ (unhide HR2) ?_; clear HR2)
      | (refine wpList_append_run _ rfl _ _ 32 rfl _ _ rfl rfl _ _ (unhide HR3) ?_; clear HR3)
      | (refine wpList_append_own _ rfl _ _ 32 rfl w4.heap.size 22 i0 (.slice none 0 0) 1 24 ht hi0 hz0 hz1 hz2 rfl (by decide) _ _ _ rfl (unhide HO3) _ (xs.length - n) _ ((List.range (xs.length - n)).map (fun j => f (n + j))) rfl (by simp) (by intro j u hj; rw [show xs.length - n = 0 by omega] at hj; simp at hj) (unhide ONES) hm1 hm2 hsz8 ?_; intro v3 w9 hown4 hgr4 hnil4; obtain ⟨HF9, p0, p1, p3⟩ := unhide FIN v3 w9 hown4 hgr4; obtain ⟨g3, cap3, ev3⟩ := ownsRow_succ (k := xs.length) (by rw [show xs.length + 1 = n + 1 + (xs.length - n) by omega]; exact hown4); subst ev3; have HF9' := hide HF9; clear HF9 hown4 hgr4 hnil4))
    all_goals
      go_ret2
      exact ⟨tupBE (unhide HE).1.symm (unhide HE).2.1.symm, by rw [(unhide HE).2.2]; exact (unhide HF9').1, (unhide HF9').2⟩
end Go.Proofs.Ytmjlhmhkbfnccaa
