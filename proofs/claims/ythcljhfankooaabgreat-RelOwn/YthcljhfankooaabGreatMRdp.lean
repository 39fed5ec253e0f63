/- The document's relation: its order, and what Put leaves. The document's relation: New. The document's relation: rows one behind the other. The document's relation: Put. The document's relation: the four appends of a new row. -/
import Derived.Test.YthcljhfankooaabGreatMRda
import Derived.Test.YthcljhfankooaabGreatMCu
import Derived.Deep.Upon
namespace Go.Proofs.YthcljhfankooaabGreat
open Go.RowKit Go.Shelf

theorem lex_lexC : ∀ (a b : List Int), a.length = b.length → lex a b = lexC a b
  | [], [], _ => rfl
  | a :: x, b :: y, h => by
    unfold lex lexC
    rw [lex_lexC x y (by simpa using h)]
  | [], _ :: _, h => by simp at h
  | _ :: _, [], h => by simp at h
theorem plainL_right : ∀ n, n ≤ 8 → right (plainL n) = true
  | 0, _ => by decide
  | 1, _ => by decide
  | 2, _ => by decide
  | 3, _ => by decide
  | 4, _ => by decide
  | 5, _ => by decide
  | 6, _ => by decide
  | 7, _ => by decide
  | 8, _ => by decide
  | n + 9, h => absurd h (by omega)
theorem plain_turn (t : List Int) : turn (plainL t.length) t = t := by
  refine List.ext_getElem (by rw [turn_length, plain_len]) (fun i h1 h2 => ?_)
  simp [turn, plainL, at_, h2]
/-- The plain order goes by the numbers as they stand. -/
theorem cmp_plain {wd : Nat} (hw : wd ≤ 8) {s t : List Int} (hs : s.length = wd) (ht : t.length = wd) : cmpA (plainL wd) s t = lexC s t := by
  unfold cmpA
  rw [if_pos (fitN_mk2 (by rw [plain_len, hs]) (by rw [plain_len, ht]) (plainL_right wd hw))]
  subst hs
  have e1 := plain_turn s
  have e2 := plain_turn t
  rw [ht] at e2
  rw [e1, e2, lex_lexC _ _ ht.symm]

/-- A tuple put in its place. -/
def insD (t : List Int) (a k : Int) : List Nrow → List Nrow
  | [] => [(t, a, k)]
  | p :: r => if lexC p.1 t < 0 then p :: insD t a k r else if p.1 = t then (if betB a k p.2.1 p.2.2 = true then (t, a, k) else p) :: r else (t, a, k) :: p :: r
def UpC (R : List Nrow) : Prop := R.Pairwise fun p q => lexC p.1 q.1 < 0
theorem insD_keys (t : List Int) (a k : Int) : ∀ (R : List Nrow) (x : Nrow), x ∈ insD t a k R → x.1 = t ∨ x ∈ R
  | [], x, h => by simp [insD] at h; exact .inl (by rw [h])
  | p :: r, x, h => by
    unfold insD at h
    split at h
    · rcases List.mem_cons.1 h with e | e
      · exact .inr (by simp [e])
      · rcases insD_keys t a k r x e with e | e
        · exact .inl e
        · exact .inr (by simp [e])
    · split at h
      · rename_i hp
        rcases List.mem_cons.1 h with e | e
        · left
          rw [e]
          split
          · rfl
          · exact hp
        · exact .inr (by simp [e])
      · rcases List.mem_cons.1 h with e | e
        · exact .inl (by rw [e])
        · exact .inr e
theorem insD_up (t : List Int) (a k : Int) : ∀ (R : List Nrow), UpC R → UpC (insD t a k R)
  | [], _ => by simp [insD, UpC]
  | p :: r, h => by
    obtain ⟨h1, h2⟩ := List.pairwise_cons.1 h
    unfold insD
    split
    · rename_i hp
      refine List.pairwise_cons.2 ⟨fun x hx => ?_, insD_up t a k r h2⟩
      rcases insD_keys t a k r x hx with e | e
      · rw [e]; exact hp
      · exact h1 x e
    · rename_i hn
      split
      · rename_i hp
        refine List.pairwise_cons.2 ⟨fun x hx => ?_, h2⟩
        have := h1 x hx
        split
        · rw [hp] at this; exact this
        · exact this
      · rename_i hp
        have hlt : lexC t p.1 < 0 := by
          have h3 := lexC_swap p.1 t
          have h4 : lexC p.1 t ≠ 0 := fun e => hp (lexC_eq e)
          omega
        refine List.pairwise_cons.2 ⟨fun x hx => ?_, h⟩
        rcases List.mem_cons.1 hx with e | e
        · rw [e]; exact hlt
        · exact lexC_lt_trans hlt (h1 x e)
theorem insD_new (t : List Int) (a k : Int) : ∀ (R : List Nrow), t ∉ nKeys R → (insD t a k R).Perm ((t, a, k) :: R)
  | [], _ => by simp [insD]
  | p :: r, h => by
    simp only [nKeys, List.map_cons, List.mem_cons, not_or] at h
    unfold insD
    split
    · exact ((insD_new t a k r h.2).cons p).trans (List.Perm.swap _ _ _)
    · rw [if_neg (fun e => h.1 e.symm)]
def updN (t : List Int) (a k : Int) (p : Nrow) : Nrow := if p.1 = t then (t, a, k) else p
theorem setN_upd (t : List Int) (a k : Int) : ∀ (ns : List Nrow), (nKeys ns).Nodup → t ∈ nKeys ns → setN t a k ns = ns.map (updN t a k)
  | [], _, h => by simp [nKeys] at h
  | p :: r, hn, h => by
    simp only [nKeys, List.map_cons, List.nodup_cons, List.mem_cons] at hn h
    unfold setN
    by_cases e : t = p.1
    · rw [if_pos e, List.map_cons]
      have h1 : r.map (updN t a k) = r := by
        rw [List.map_congr_left (g := id) (fun q hq => ?_), List.map_id]
        unfold updN
        rw [if_neg (fun e2 => hn.1 (by rw [← e, ← e2]; exact List.mem_map.2 ⟨q, hq, rfl⟩))]
        rfl
      rw [h1]
      unfold updN
      rw [if_pos e.symm, e]
    · rw [if_neg e, List.map_cons, setN_upd t a k r hn.2 (h.resolve_left e)]
      unfold updN
      rw [if_neg (fun e2 => e e2.symm)]
theorem map_upd_none {t : List Int} {a k : Int} {R : List Nrow} (h : t ∉ nKeys R) : R.map (updN t a k) = R := by
  rw [List.map_congr_left (g := id) (fun q hq => ?_), List.map_id]
  unfold updN
  rw [if_neg (fun e => h (by rw [← e]; exact List.mem_map.2 ⟨q, hq, rfl⟩))]
  rfl
theorem insD_old (t : List Int) (a k : Int) (q : Int × Int) : ∀ (R : List Nrow), UpC R → (t, q) ∈ R → insD t a k R = if betB a k q.1 q.2 = true then R.map (updN t a k) else R
  | [], _, h => by cases h
  | p :: r, hu, h => by
    obtain ⟨h1, h2⟩ := List.pairwise_cons.1 hu
    unfold insD
    by_cases e : p.1 = t
    · have hnl : ¬ lexC p.1 t < 0 := by rw [e, lexC_self]; decide
      have hno : t ∉ nKeys r := fun hm => by
        obtain ⟨x, hx, ex⟩ := List.mem_map.1 hm
        have := h1 x hx
        rw [ex, e, lexC_self] at this
        exact absurd this (by decide)
      have hq : p = (t, q) := by
        rcases List.mem_cons.1 h with e2 | e2
        · exact e2.symm
        · exact absurd (List.mem_map.2 ⟨_, e2, rfl⟩) hno
      subst hq
      rw [if_neg hnl, if_pos rfl]
      split
      · rw [List.map_cons, map_upd_none hno]
        unfold updN
        rw [if_pos rfl]
      · rfl
    · have hm : (t, q) ∈ r := by
        rcases List.mem_cons.1 h with e2 | e2
        · exact absurd (by rw [← e2]) e
        · exact e2
      rw [if_pos (h1 _ hm), insD_old t a k q r h2 hm]
      split
      · rw [List.map_cons]
        congr 1
        unfold updN
        rw [if_neg e]
      · rfl
theorem getN_pair {t : List Int} {q : Int × Int} : ∀ {ns : List Nrow}, getN t ns = some q → (t, q) ∈ ns
  | [], h => by simp [getN] at h
  | p :: r, h => by
    unfold getN at h
    split at h
    · rename_i e
      simp only [Option.some.injEq] at h
      subst e
      subst h
      exact List.mem_cons_self
    · exact List.mem_cons_of_mem _ (getN_pair h)
theorem keys_perm {R ns : List Nrow} (h : R.Perm ns) : (nKeys R).Perm (nKeys ns) := h.map _
/-- What the document's Put leaves is what the relation's Put leaves, sorted. -/
theorem put_perm {R ns : List Nrow} (hp : R.Perm ns) (hu : UpC R) (hn : (nKeys ns).Nodup) (t : List Int) (a k : Int) (hl : ns.length < 1024) : (insD t a k R).Perm (putTo t a k ns) := by
  unfold putTo
  cases hq : getN t ns with
  | none =>
    have hk : t ∉ nKeys R := fun h => getN_none.1 hq ((keys_perm hp).mem_iff.1 h)
    simp only [hl, if_true]
    exact ((insD_new t a k R hk).trans (hp.cons _)).trans (List.perm_append_singleton _ _).symm
  | some q =>
    have hm := getN_pair hq
    rw [insD_old t a k q R hu (hp.mem_iff.2 hm)]
    simp only
    split
    · rw [setN_upd t a k ns hn (List.mem_map.2 ⟨_, hm, rfl⟩)]
      exact hp.map _
    · exact hp
theorem up_eq : ∀ (A B : List Nrow), UpC A → UpC B → (∀ x, x ∈ A ↔ x ∈ B) → A = B
  | [], [], _, _, _ => rfl
  | [], b :: B, _, _, h => by have := (h b).2 List.mem_cons_self; cases this
  | a :: A, [], _, _, h => by have := (h a).1 List.mem_cons_self; cases this
  | a :: A, b :: B, hA, hB, h => by
    obtain ⟨a1, a2⟩ := List.pairwise_cons.1 hA
    obtain ⟨b1, b2⟩ := List.pairwise_cons.1 hB
    have irr : ∀ x : List Int, ¬ lexC x x < 0 := fun x => by rw [lexC_self]; decide
    have e : a = b := by
      rcases List.mem_cons.1 ((h a).1 List.mem_cons_self) with e | e
      · exact e
      · rcases List.mem_cons.1 ((h b).2 List.mem_cons_self) with e2 | e2
        · exact e2.symm
        · exact absurd (lexC_lt_trans (a1 b e2) (b1 a e)) (irr _)
    subst e
    rw [up_eq A B a2 b2 (fun x => ?_)]
    constructor
    · intro hx
      rcases List.mem_cons.1 ((h x).1 (List.mem_cons_of_mem _ hx)) with e | e
      · exact absurd (a1 x hx) (by rw [e]; exact irr _)
      · exact e
    · intro hx
      rcases List.mem_cons.1 ((h x).2 (List.mem_cons_of_mem _ hx)) with e | e
      · exact absurd (b1 x hx) (by rw [e]; exact irr _)
      · exact e
theorem like_nought (a b : List Int) : likeB 0 a b = true := by
  unfold likeB
  rw [List.all_eq_true]
  intro c _
  simp
/-- All that is held, rising, is the document's rows. -/
theorem all_rows {wd : Nat} {R ns : List Nrow} (hp : R.Perm ns) (hu : UpC R) (hn : (nKeys ns).Nodup) : foundL wd 0 (List.replicate wd 0) ns = R := by
  obtain ⟨h1, h2⟩ := found_is (wd := wd) (cols := 0) (t := List.replicate wd 0) hn ⟨by simp, Int.le_refl _, by have := Nat.two_pow_pos wd; omega⟩
  exact up_eq _ _ h1 hu (fun x => by rw [h2, hp.mem_iff]; simp [like_nought])
end Go.Proofs.YthcljhfankooaabGreat

namespace Go.Proofs.YthcljhfankooaabGreat
open Go.RowKit Go.Shelf

theorem pair_cells {w : World} {b : Nat} {x y : Value} {t : TypeId} (h : w.heap[b]? = some (.cells #[x, y] t (0, 0))) : w.cell? ⟨b, 0, none⟩ = some x ∧ w.cell? ⟨b, 1, none⟩ = some y ∧ w.frozen? ⟨b, 0, none⟩ = false ∧ w.frozen? ⟨b, 1, none⟩ = false :=
  ⟨by rw [cell_at h]; rfl, by rw [cell_at h]; rfl, by simp [World.frozen?, h], by simp [World.frozen?, h]⟩
/-- The width that New gives. -/
def newW (width : Int) (l : List Int) : Int := if C.ordE width l = 0 then width else 0

set_option maxRecDepth 100000 in
set_option maxHeartbeats 4000000 in
theorem rdnew_any (w : World) (width : Int) (v : Value) (l : List Int) (h : Ints w.heap.size w v l) :
    Calls Tryz.prog 6 #[.int .i64 width, v] w fun e w' => e = .returned (.tuple #[.agg #[.int .i64 (newW width l), .slice none 0 0], .int .i64 (C.ordE width l)]) ∧ Below w.heap.size w w' := by
  obtain ⟨w1, hw1⟩ : ∃ w1, w1 = w.alloc (.cells #[.int .i64 0, .slice none 0 0] 29) := ⟨_, rfl⟩
  have b1 : Below w.heap.size w w1 := by rw [hw1]; exact allocB w _
  have hnw : w1.heap[w.heap.size]? = some (.cells #[.int .i64 0, .slice none 0 0] 29 (0, 0)) := by rw [hw1]; exact World.alloc_heap_new _ _
  have hc := C.wrong_any w1 width v l ((h.below b1 (Nat.le_refl _)).mono b1.size)
  obtain ⟨va, vc, rfl, _⟩ := id h
  have HH := hide (And.intro b1 hnw)
  have HN : Hid (newW width l = if C.ordE width l = 0 then width else 0) := rfl
  generalize newW width l = nw at HN ⊢
  generalize C.ordE width l = E at hc HN ⊢
  clear h b1 hnw
  go_enter Tryz.func6, Tryz.ntmps6
  go_wp2_with fail
  rw [← hw1]
  clear hw1
  refine hc.mono ?_
  clear hc
  rintro e w2 ⟨rfl, b2⟩
  obtain ⟨b1, hnw⟩ := unhide HH
  have h2 := (b2.block _ (lt_heap hnw)).trans hnw
  have bb := b1.trans (b2.mono b1.size)
  obtain ⟨c0, c1, q0, q1⟩ := pair_cells h2
  have H2 := hide (And.intro bb h2)
  clear b1 hnw b2 h2 bb
  by_cases hE : E = 0
  · subst hE
    have hnw := unhide HN
    rw [if_pos rfl] at hnw
    have HNW := hide hnw
    clear hnw
    go_wp2_with fail
    obtain ⟨bb, h2⟩ := unhide H2
    have hW := set_heap (set_heap h2 0 (.int .i64 width)) 1 (.slice none 0 0)
    obtain ⟨d0, d1, _⟩ := pair_cells (x := .int .i64 width) (y := .slice none 0 0) (t := 29) hW
    refine bodyPost_ret (v := .tuple #[.agg #[.int .i64 width, .slice none 0 0], .int .i64 0]) (by simp [results, Tryz.f6, go_sem, d0, d1]) rfl ?_
    exact ⟨by rw [unhide HNW], (bb.setCell (p := ⟨w.heap.size, 0, none⟩) (Nat.le_refl _) _).setCell (p := ⟨w.heap.size, 1, none⟩) (Nat.le_refl _) _⟩
  · have hz : (E != 0) = true := by simpa using hE
    have hnw := unhide HN
    rw [if_neg hE] at hnw
    have HNW := hide hnw
    clear hnw hE
    go_wp2_with fail
    obtain ⟨bb, h2⟩ := unhide H2
    have hW := set_heap (set_heap h2 0 (.int .i64 0)) 1 (.slice none 0 0)
    obtain ⟨d0, d1, _⟩ := pair_cells (x := .int .i64 0) (y := .slice none 0 0) (t := 29) hW
    refine bodyPost_ret (v := .tuple #[.agg #[.int .i64 0, .slice none 0 0], .int .i64 E]) (by simp [results, Tryz.f6, go_sem, d0, d1]) rfl ?_
    exact ⟨by rw [unhide HNW], (bb.setCell (p := ⟨w.heap.size, 0, none⟩) (Nat.le_refl _) _).setCell (p := ⟨w.heap.size, 1, none⟩) (Nat.le_refl _) _⟩
end Go.Proofs.YthcljhfankooaabGreat

namespace Go.Proofs.YthcljhfankooaabGreat
open Go.RowKit Go.Shelf

/-- Rows behind an own row. -/
theorem appRows_run {base : Nat} (w : World) (v : Value) (n : Nat) (vs : List Value) (h : w.ownsRow base 69 3 v n vs) (hb : base ≤ w.heap.size) (sa : Option Addr) (m c : Nat) (news : List Value) (hl : news.length = m * 3) (hnone : sa = none → m = 0) (hnews : ∀ ad, sa = some ad → ∀ j u, news[j]? = some u → w.cell? (ad.add j) = some u) (h1 : ∀ u ∈ news, u.oneCell' = true) (hn : n + m ≤ 3000) :
    ∃ r w', (Builtin.append_ #[27, 27] 27 #[v, .slice sa m c]).run Tryz.prog w = .ok r w' ∧ w'.ownsRow base 69 3 r (n + m) (vs ++ news) ∧ Keeps (fun b => some b = v.ownBlock) w w' ∧ ∀ b, some b = r.ownBlock → some b = v.ownBlock ∨ w.heap.size ≤ b := by
  obtain ⟨i, g1, g2, g3, g4⟩ := infoD
  have ht : Tryz.prog.underlying 27 = some (.slice 69) := by kernel_rfl
  cases sa with
  | none =>
    have hm := hnone rfl
    subst hm
    have hx0 : news = [] := List.eq_nil_of_length_eq_zero (by omega)
    subst hx0
    have hs : Src Tryz.prog i.size 27 (.slice none 0 c) 0 [] w := ⟨.inl ⟨_, ht⟩, fun _ => rfl, by rw [g3]; rfl, by rw [g3]; rfl, by simp, fun u hu => by cases hu⟩
    obtain ⟨va, vc, ev, hle⟩ : ∃ va vc, v = .slice va n vc ∧ n ≤ vc := by
      rcases h.2 with ⟨e, e2⟩ | ⟨g, cap, cur, e, _, _, e4, _⟩
      · exact ⟨none, 0, by rw [e, e2], by omega⟩
      · exact ⟨_, cap, e, e4⟩
    subst ev
    exact ⟨_, w, run_append_nothing w _ _ _ _ i ht g1 _ _ _ hle _ hs, by rw [List.append_nil]; exact h, Keeps.refl _ w, fun b e => .inl e⟩
  | some ad =>
    obtain ⟨r, w', hr, ho, hg, _, hat⟩ := run_append_own_at (P := Tryz.prog) w base 27 27 69 i (.agg #[.slice none 0 0, .int .i64 0, .int .i64 0]) 3 40 ht g1 g2 g3 g4 rfl (by decide) v n vs h ad m c news hl (hnews ad rfl) h1 (by unfold maxLen; omega) (by omega) hb
    refine ⟨r, w', hr, ho, keeps_grown (O := fun b => some b = v.ownBlock) hg (fun b hb => hb), fun b hb2 => ?_⟩
    rcases hat with e | e
    · exact .inl (hb2.trans e)
    · rw [e] at hb2
      simp only [Option.some.injEq] at hb2
      exact .inr (by omega)

theorem flat3_len (us : List (Value × Nrow)) : (flat3 us).length = us.length * 3 := by
  induction us with
  | nil => rfl
  | cons p r ih => unfold flat3 at *; simp only [List.flatMap_cons, List.length_append, ih, List.length_cons, List.length_nil]; omega
theorem flat3_append (us vs : List (Value × Nrow)) : flat3 (us ++ vs) = flat3 us ++ flat3 vs := by simp [flat3]
theorem flat3_take (us : List (Value × Nrow)) (n : Nat) (h : n ≤ us.length) : flat3 (us.take n) = (flat3 us).take (n * 3) := by
  have e := flat3_append (us.take n) (us.drop n)
  rw [List.take_append_drop] at e
  have hl : (flat3 (us.take n)).length = n * 3 := by rw [flat3_len, List.length_take]; omega
  rw [e, ← hl, List.take_left']
  rfl
theorem flat3_drop (us : List (Value × Nrow)) (n : Nat) (h : n ≤ us.length) : flat3 (us.drop n) = (flat3 us).drop (n * 3) := by
  have e := flat3_append (us.take n) (us.drop n)
  rw [List.take_append_drop] at e
  have hl : (flat3 (us.take n)).length = n * 3 := by rw [flat3_len, List.length_take]; omega
  rw [e, ← hl, List.drop_left']
  rfl
/-- Where nothing is, a tuple comes to its place. -/
theorem insD_at {wd : Nat} (hw : wd ≤ 8) {t : List Int} (ht : t.length = wd) (a k : Int) : ∀ (R : List Nrow), (∀ p ∈ R, p.1.length = wd) → t ∉ nKeys R → insD t a k R = R.take (atD wd t R) ++ (t, a, k) :: R.drop (atD wd t R)
  | [], _, _ => by simp [insD, atD]
  | p :: r, hl, hk => by
    simp only [nKeys, List.map_cons, List.mem_cons, not_or] at hk
    have hp := cmp_plain hw (hl p List.mem_cons_self) ht
    have ih := insD_at hw ht a k r (fun q hq => hl q (List.mem_cons_of_mem _ hq)) hk.2
    unfold insD
    by_cases e : lexC p.1 t < 0
    · have e2 : atD wd t (p :: r) = atD wd t r + 1 := by unfold atD; rw [List.takeWhile_cons, if_pos (by rw [hp]; simpa using e)]; rfl
      rw [if_pos e, e2, ih]
      rfl
    · have e2 : atD wd t (p :: r) = 0 := by unfold atD; rw [List.takeWhile_cons, if_neg (by rw [hp]; simpa using e)]; rfl
      rw [if_neg e, if_neg (fun e3 => hk.1 e3.symm), e2]
      rfl
end Go.Proofs.YthcljhfankooaabGreat

namespace Go.Proofs.YthcljhfankooaabGreat
open Go.RowKit Go.Shelf

/-- The document's relation, with the blocks that it writes. -/
def RDo (X : Nat → Prop) (base : Nat) (w : World) (qb wd : Nat) (R : List Nrow) (O : Nat → Prop) : Prop := ∃ rv us, base ≤ qb ∧ w.heap[qb]? = some (.cells #[.int .i64 (wd : Int), rv] 29 (0, 0)) ∧ w.ownsRow base 69 3 rv us.length (flat3 us) ∧ us.map (·.2) = R ∧ (∀ b, O b ↔ (b = qb ∨ some b = rv.ownBlock)) ∧ ∀ p ∈ us, IntsS (fun b => base ≤ b ∧ ¬ O b ∧ ¬ X b) w p.1 p.2.1
theorem RDo.later {X : Nat → Prop} {base : Nat} {w w' : World} {qb wd : Nat} {R : List Nrow} {O : Nat → Prop} (h : RDo X base w qb wd R O) (hb : Below w.heap.size w w') : RDo X base w' qb wd R O := by
  obtain ⟨rv, us, h1, h2, h3, h4, h5, h6⟩ := h
  exact ⟨rv, us, h1, (hb.block _ (lt_heap h2)).trans h2, ownsRow_step (b0 := 0) h3 (Step.of_below hb), h4, h5, fun p hp => (h6 p hp).later hb⟩
theorem own_cells {base : Nat} {w : World} {g n cap : Nat} {us : List (Value × Nrow)} (h : w.ownsRow base 69 3 (.slice (some ⟨g, 0, none⟩) n cap) us.length (flat3 us)) {j : Nat} {u : Value} (hj : (flat3 us)[j]? = some u) : w.cell? ⟨g, j, none⟩ = some u := by
  rcases h.2 with ⟨e, _⟩ | ⟨g', cap', cur, e, _, e3, _, _, e6, e7⟩
  · cases e
  · simp only [Value.slice.injEq, Option.some.injEq, Addr.mk.injEq] at e
    obtain ⟨⟨rfl, _⟩, _⟩ := e
    rw [cell_at e3, ← Array.getElem?_toList]
    rw [← e7, List.getElem?_take] at hj
    split at hj
    · exact hj
    · cases hj
theorem RDo.at {X : Nat → Prop} {base : Nat} {w : World} {qb wd : Nat} {R : List Nrow} {O : Nat → Prop} (h : RDo X base w qb wd R O) : RDAt (fun _ => True) w qb wd R := by
  obtain ⟨rv, us, h1, h2, h3, h4, h5, h6⟩ := h
  refine ⟨rv, h2, ?_⟩
  have hlen : R.length = us.length := by rw [← h4]; simp
  rcases id h3.2 with ⟨e, e2⟩ | ⟨g, cap, cur, e, _, e3, e4, e5, _⟩
  · refine ⟨none, 0, by rw [e, hlen, e2], by omega, by omega, fun j hj => by omega⟩
  · subst e
    refine ⟨_, cap, by rw [hlen], by omega, by unfold maxLen at e5; omega, fun j hj => ?_⟩
    have hj' : j < us.length := by omega
    have hu := List.getElem?_eq_getElem hj'
    obtain ⟨f1, f2, f3⟩ := flat3_get us j _ hu
    refine ⟨g, us[j].1, us[j].2, rfl, trivial, by rw [← h4, List.getElem?_map, hu]; rfl, own_cells h3 f1, own_cells h3 f2, own_cells h3 f3, (h6 _ (List.getElem_mem hj')).mono (fun _ _ _ => trivial)⟩

set_option maxRecDepth 100000 in
set_option maxHeartbeats 4000000 in
/-- A tuple of another width. -/
theorem rdput_wide (w : World) (qb wd : Nat) (rv : Value) (hq : w.heap[qb]? = some (.cells #[.int .i64 (wd : Int), rv] 29 (0, 0))) (a k : Int) (ta : Option Addr) (n tc : Nat) (hn : n ≠ wd) :
    Calls Tryz.prog 10 #[.pointer (some ⟨qb, 0, none⟩), .int .i64 a, .int .i64 k, .slice ta n tc] w fun e w' => e = .returned (.tuple #[.bool false, .int .i64 14]) ∧ Below w.heap.size w w' := by
  have c0 : w.cell? ⟨qb, 0, none⟩ = some (.int .i64 (wd : Int)) := by rw [cell_at hq]; rfl
  have hz : ((n : Int) != (wd : Int)) = true := by rw [bne_iff_ne]; omega
  clear hq hn
  go_enter Tryz.func10, Tryz.ntmps10
  go_wp2_with fail
  go_ret2
  exact ⟨rfl, by first | exact Below.refl _ _ | exact (Below.refl _ _).drew⟩
end Go.Proofs.YthcljhfankooaabGreat

namespace Go.Proofs.YthcljhfankooaabGreat
open Go.RowKit Go.Shelf

theorem one_flat {w : World} {us : List (Value × Nrow)} {B : Nat → Prop} (h : ∀ p ∈ us, IntsS B w p.1 p.2.1) : ∀ u ∈ flat3 us, u.oneCell' = true := fun u hu => by
  obtain ⟨p, hp, hu⟩ := List.mem_flatMap.1 hu
  obtain ⟨a, c, e, _⟩ := h p hp
  simp only [List.mem_cons, List.not_mem_nil, or_false] at hu
  rcases hu with rfl | rfl | rfl
  · rw [e]; rfl
  · rfl
  · rfl
/-- Rows, the new one, rows. -/
theorem app4_run {base g cap : Nat} {ra : Option Addr} {B : Nat → Prop} (w : World) (us : List (Value × Nrow)) (h : w.ownsRow base 69 3 (.slice ra us.length cap) us.length (flat3 us)) (hg : us ≠ [] → ra = some ⟨g, 0, none⟩) (hu : ∀ p ∈ us, IntsS B w p.1 p.2.1) (n : Nat) (hn : n ≤ us.length) (hm : us.length < 1024) (tv : Value) (t : List Int) (ht : Ints w.heap.size w tv t) (htl : t.length ≤ 8) (a k : Int) (s0 sa : Option Addr) (c0 c9 : Nat) (hs0 : 0 < n → s0 = some ⟨g, 0, none⟩) (hsa : n < us.length → sa = some ⟨g, n * 3, none⟩) :
    ∃ a1 c1 w2 a2 c2 w3 a3 c3 w4 r4 w5, (Builtin.append_ #[27, 27] 27 #[.slice none 0 0, .slice s0 n c0]).run Tryz.prog w = .ok (.slice a1 n c1) w2 ∧
      (Builtin.append_ #[32, 32] 32 #[.slice none 0 0, tv]).run Tryz.prog w2 = .ok (.slice a2 t.length c2) w3 ∧
      (Builtin.append_ #[27, 27] 27 #[.slice a1 n c1, .slice (some ⟨w3.heap.size, 0, none⟩) 1 1]).run Tryz.prog (w3.alloc (.cells #[.slice a2 t.length c2, .int .i64 a, .int .i64 k] 69)) = .ok (.slice a3 (n + 1) c3) w4 ∧
      (Builtin.append_ #[27, 27] 27 #[.slice a3 (n + 1) c3, .slice sa (us.length - n) c9]).run Tryz.prog w4 = .ok r4 w5 ∧
      w5.ownsRow w.heap.size 69 3 r4 (us.length + 1) (flat3 (us.take n ++ (.slice a2 t.length c2, (t, a, k)) :: us.drop n)) ∧ IntsS (fun b => w.heap.size ≤ b ∧ some b ≠ r4.ownBlock) w5 (.slice a2 t.length c2) t ∧ Below w.heap.size w w2 ∧ Below w.heap.size w w4 ∧ Below w.heap.size w w5 := by
  have hone := one_flat hu
  have hshape : ∀ {W : World} {v : Value} {m bs : Nat} {vs : List Value}, W.ownsRow bs 69 3 v m vs → ∃ x c, v = .slice x m c := fun {W v m bs vs} hh => by
    rcases hh.2 with ⟨e, e2⟩ | ⟨g, cap, cur, e, _⟩
    · exact ⟨none, 0, by rw [e, e2]⟩
    · exact ⟨_, cap, e⟩
  obtain ⟨r1, w2, hr1, ho1, k1, _⟩ := appRows_run (base := w.heap.size) w (.slice none 0 0) 0 [] (World.ownsRow_nil _ _ _ _) (Nat.le_refl _) s0 n c0 (flat3 (us.take n)) (by rw [flat3_len, List.length_take]; omega) (fun e => by
      by_cases hh : 0 < n
      · rw [hs0 hh] at e; cases e
      · omega) (fun ad e j u hj => by
    by_cases hh : 0 < n
    case neg =>
      rw [show n = 0 by omega] at hj
      simp [flat3] at hj
    rw [hs0 hh] at e
    cases e
    have hne : us ≠ [] := fun e => by rw [e] at hn; simp at hn; omega
    have h := h
    rw [hg hne] at h
    rw [flat3_take us n hn, List.getElem?_take] at hj
    split at hj
    · rw [Addr.add_lit]; simpa using own_cells h hj
    · cases hj) (fun u hu2 => hone u (by rw [flat3_take us n hn] at hu2; exact List.mem_of_mem_take hu2)) (by omega)
  rw [Nat.zero_add, List.nil_append] at ho1
  have b2 : Below w.heap.size w w2 := k1.below (Nat.le_refl _) (fun b e => by cases e)
  obtain ⟨r2, w3, hr2, ho2, b3⟩ := C.appI_run w2 tv t ((ht.below b2 (Nat.le_refl _)).mono b2.size) (by omega)
  obtain ⟨a2, c2, rfl, _⟩ := id ho2.intsS
  have ho1' := ownsRow_step (b0 := 0) ho1 (Step.of_below b3)
  obtain ⟨r3, w4, hr3, ho3, k3, hat3⟩ := appD_run w3 r1 (.slice a2 t.length c2) (.int .i64 a) (.int .i64 k) n _ ho1' rfl rfl rfl (Nat.le_trans b2.size b3.size) (by omega)
  have b13 := b2.trans (b3.mono b2.size)
  have b4 : Below w.heap.size w w4 := b13.trans (k3.below b13.size (fun b e => (World.ownsRow.lt ho1' b e.symm).1))
  have h4 := ownsRow_step (b0 := 0) h (Step.of_below b4)
  obtain ⟨r4, w5, hr4, ho4, k4, hat4⟩ := appRows_run w4 r3 (n + 1) _ ho3 b4.size sa (us.length - n) c9 (flat3 (us.drop n)) (by rw [flat3_len, List.length_drop]) (fun e => by
      by_cases hh : n < us.length
      · rw [hsa hh] at e; cases e
      · omega) (fun ad e j u hj => by
    by_cases hh : n < us.length
    case neg =>
      rw [List.drop_eq_nil_of_le (by omega)] at hj
      simp [flat3] at hj
    rw [hsa hh] at e
    cases e
    have hne : us ≠ [] := fun e => by rw [e] at hh; simp at hh
    have h4 := h4
    rw [hg hne] at h4
    rw [flat3_drop us n hn, List.getElem?_drop] at hj
    rw [Addr.add_lit]
    exact own_cells h4 hj) (fun u hu2 => hone u (by rw [flat3_drop us n hn] at hu2; exact List.mem_of_mem_drop hu2)) (by omega)
  have b5 : Below w.heap.size w w5 := b4.trans (k4.below b4.size (fun b e => (World.ownsRow.lt ho3 b e.symm).1))
  obtain ⟨a1, c1, rfl⟩ := hshape ho1
  obtain ⟨a3, c3, rfl⟩ := hshape ho3
  refine ⟨a1, c1, w2, a2, c2, w3, a3, c3, w4, r4, w5, hr1, hr2, hr3, hr4, ?_, ?_, b2, b4, b5⟩
  · have e : n + 1 + (us.length - n) = us.length + 1 := by omega
    rw [e] at ho4
    have e2 : flat3 (us.take n ++ (.slice a2 t.length c2, (t, a, k)) :: us.drop n) = flat3 (us.take n) ++ [.slice a2 t.length c2, .int .i64 a, .int .i64 k] ++ flat3 (us.drop n) := by simp [flat3]
    rw [e2]
    exact ho4
  · have hi : IntsS (fun b => w2.heap.size ≤ b) w3 (.slice a2 t.length c2) t := OwnI.intsS ho2
    have hi3 : IntsS (fun b => w2.heap.size ≤ b ∧ b < w3.heap.size) w3 (.slice a2 t.length c2) t := hi.mono (fun b h1 h2 => ⟨h2, h1⟩)
    have hn1 : ∀ b, w2.heap.size ≤ b ∧ b < w3.heap.size → ¬ some b = (Value.slice a1 n c1).ownBlock := fun b hb e => by have := (World.ownsRow.lt ho1 b e.symm).2; omega
    have hn3 : ∀ b, w2.heap.size ≤ b ∧ b < w3.heap.size → ¬ some b = (Value.slice a3 (n + 1) c3).ownBlock := fun b hb e => by
      rcases hat3 b e with e2 | e2
      · exact hn1 b hb e2
      · omega
    have hi5 := (hi3.stays (k3.stays (fun b _ hb e => hn1 b hb e))).stays (k4.stays (fun b _ hb e => hn3 b hb e))
    have hs2 := b2.size
    have hs34 := k3.size
    refine hi5.mono (fun b _ hb => ⟨by omega, fun e => ?_⟩)
    rcases hat4 b e with e2 | e2
    · exact hn3 b hb e2
    · omega
end Go.Proofs.YthcljhfankooaabGreat
