/- The library's Insert of one element into a row of one's own. -/
import Derived.Test.YthcljhfankooaabGreatBSlic
import Derived.Shelf.RegionOpenPlain
import Derived.Lib.Walk
import Derived.Lib.JoinLaws
import Derived.Lib.AppendZeros
import Derived.Lib.AppendZerosOnto
import Derived.Lib.Overlaps
import Derived.Laws.Externs
import Derived.Laws.IdiomCopy
import Derived.Laws.NewBlocks
namespace Go.Proofs.YthcljhfankooaabGreat
open Go.RowKit Go.Shelf Go.Lib

/-- The cells with one more at a place. -/
def insf {α : Type} (f : Nat → α) (i : Nat) (x : α) (j : Nat) : α := if j < i then f j else if j = i then x else f (j - 1)
theorem insf_lt {α : Type} {f : Nat → α} {i : Nat} {x : α} {j : Nat} (h : j < i) : insf f i x j = f j := if_pos h
theorem insf_eq {α : Type} (f : Nat → α) (i : Nat) (x : α) : insf f i x i = x := by simp [insf]
theorem insf_gt {α : Type} {f : Nat → α} {i : Nat} {x : α} {j : Nat} (h : i < j) : insf f i x j = f (j - 1) := by
  unfold insf
  rw [if_neg (by omega), if_neg (by omega)]

theorem copy_step {w : World} {ops : Array Oper} {rest : List Oper} {o : Oper} {a : Act} {Q : Exit → Act → World → Prop} (hgd : o.guard = none) (d s : Operand) (t : TypeId)
    (ho : o.op = .call { callee := .builtin .copy, args := #[d, s], argTypes := #[t, t] }) (v u : Value) (hd : a.eval d = v) (hs : a.eval s = u) {v' : Value} {w' : World}
    (hr : (Builtin.copy_ #[t, t] o.type #[v, u]).run Tryz.prog w = .ok v' w') (h : wpList Tryz.prog ops Q rest (a.put o.dst v') w') : wpList Tryz.prog ops Q (o :: rest) a w := by
  refine wpList_plain hgd fun _ hK => ?_
  unfold Oper.wp execOp
  simp only [ho, resolve, invoke, builtin, Sem.run_bind, Sem.run_pure, Result.andThen_ok, List.map_toArray, List.map_cons, List.map_nil, hd, hs, hr]
  exact hK _ _ h
theorem copy_drawn {ops : Array Oper} {o : Oper} {a : Act} {w : World} {K : Act → World → Prop} {Q : Exit → Act → World → Prop} {E : Prop}
    (hg : o.guard = none) (d x : Operand) (t : TypeId) (hop : o.op = Op.call { callee := Callee.builtin Builtin.copy, args := #[d, x], argTypes := #[t, t] })
    (v u : Value) (hd : a.eval d = v) (hx : a.eval x = u) {v' : Value} {w' : World} (hr : (Builtin.copy_ #[t, t] o.type #[v, u]).run Tryz.prog w = .ok v' w') (hK : K (a.put o.dst v') w') :
    if Region.wanted o (yielded ops a.tmps) = true then Oper.wp Tryz.prog o a w K Q else E := by
  have hw : Region.wanted o (yielded ops a.tmps) = true := by simp [Region.wanted, hg]
  rw [if_pos hw]
  unfold Oper.wp
  simp [execOp, hop, resolve, invoke, builtin, hd, hx, hr, Result.andThen]
  exact hK
theorem some_setCells (b : Nat) (vs : List Value) (o : Nat) (w : World) (h : ∀ j, j < vs.length → (w.cell? ⟨b, o + j, none⟩).isSome = true) (k : Nat) (hk : (w.cell? ⟨b, k, none⟩).isSome = true) : ((w.setCells b o vs).cell? ⟨b, k, none⟩).isSome = true := by
  by_cases hin : o ≤ k ∧ k < o + vs.length
  · have := World.cell?_setCells_in b vs o w h (k - o) (by omega)
    rw [show o + (k - o) = k by omega] at this
    rw [this]; rfl
  · rw [World.cell?_setCells_out b vs o w ⟨b, k, none⟩ (fun _ _ => by show k < o ∨ o + vs.length ≤ k; omega)]
    exact hk
theorem setCells_drew (b : Nat) : ∀ (vs : List Value) (o : Nat) (w : World), w.drew.setCells b o vs = (w.setCells b o vs).drew
  | [], _, _ => rfl
  | v :: r, o, w => by rw [World.setCells, World.setCells, ← setCells_drew b r]; rfl
theorem keeps_setCells (b : Nat) : ∀ (vs : List Value) (o : Nat) (w : World), Keeps (fun k => k = b) w (w.setCells b o vs)
  | [], _, w => Keeps.refl _ w
  | v :: r, o, w => by
    rw [World.setCells]
    exact ((Keeps.refl (fun k => k = b) w).setCell ⟨b, o, none⟩ rfl v).trans (keeps_setCells b r (o + 1) _) (fun _ _ e => e)
/-- Cells of a block that is owned, or new. -/
theorem Keeps.cells {O : Nat → Prop} {A B : World} (h : Keeps O A B) {b : Nat} (hb : O b ∨ A.heap.size ≤ b) (o : Nat) (vs : List Value) : Keeps O A (B.setCells b o vs) :=
  h.trans (keeps_setCells b vs o B) (fun k hk e => by subst e; rcases hb with hb | hb; exact hb; omega)
theorem Keeps.of_grown {A B : World} {row : Option Nat} (h : A.grownBy B row) : Keeps (fun b => row = some b) A B :=
  ⟨h.os, h.tape, h.output, h.size, fun b _ hb hn => (h.block b (lt_heap hb) (fun e => hn e.symm)).trans hb⟩

set_option maxRecDepth 100000 in
set_option maxHeartbeats 4000000 in
/-- At the end. -/
theorem insT_end (base : Nat) (w : World) (v : Value) (n vb : Nat) (f : Nat → Value) (x : Value) (hown : w.ownsRow base 32 1 v n ((List.range n).map f)) (hn : n ≤ 1000) (hx1 : x.oneCell' = true)
    (hvb : w.cell? ⟨vb, 0, none⟩ = some x) (hbase : base ≤ w.heap.size) :
    Calls Tryz.prog 122 #[v, .int .i64 n, .slice (some ⟨vb, 0, none⟩) 1 1] w fun e w' => ∃ r, e = .returned r ∧ Row (fun b => base ≤ b) w' r (n + 1) (insf f n x) ∧ Keeps (fun b => v.ownBlock = some b) w w' := by
  obtain ⟨i0, hi, hz0, hz1, hz2⟩ := infoT
  have HI := hide (And.intro hi (And.intro hz0 (And.intro hz1 hz2)))
  clear hi hz0 hz1 hz2
  have HN : Hid (∀ j u, [x][j]? = some u → w.cell? ((⟨vb, 0, none⟩ : Addr).add j) = some u) := fun j u hj => by
    match j, hj with
    | 0, hj => cases hj; rw [Addr.add_lit]; exact hvb
    | j + 1, hj => simp at hj
  have HE : Hid (∀ u ∈ [x], u.oneCell' = true) := fun u hu => by simp at hu; subst hu; exact hx1
  have HO := hide hown
  have HF : Hid ((List.range (n + 1)).map (insf f n x) = (List.range n).map f ++ [x]) := by
    show _ = _
    rw [List.range_succ, List.map_append]
    congr 1
    · apply List.map_congr_left
      intro j hj
      exact insf_lt (List.mem_range.1 hj)
    · simp [insf]
  have fin : ∀ (v' : Value) (w' : World), w'.ownsRow base 32 1 v' (n + 1) ((List.range n).map f ++ [x]) → w.grownBy w' v.ownBlock → Row (fun b => base ≤ b) w' v' (n + 1) (insf f n x) ∧ Keeps (fun b => v.ownBlock = some b) w w' := fun v' w' ho hg => by
    exact ⟨Row.of_own (by rw [unhide HF]; exact ho), Keeps.of_grown hg⟩
  have FIN := hide fin
  clear fin
  have q : ¬ ((1 : Int) = 0) := by omega
  rcases hown.2 with ⟨rfl, h0⟩ | ⟨g, cap, cur, rfl, hb, hg, hnc, hm, hs, ht⟩
  · subst h0
    clear hown
    go_enter Tryz.func122, Tryz.ntmps122
    go_wp2_with (at_builtin; refine wpList_append_own _ rfl _ _ 22 rfl base 32 i0 (.slice none 0 0) 1 24 Tryz.underlying22 (unhide HI).1 (unhide HI).2.1 (unhide HI).2.2.1 (unhide HI).2.2.2 rfl (by decide) _ _ _ rfl (unhide HO) ⟨vb, 0, none⟩ 1 1 [x] rfl rfl (unhide HN) (unhide HE) (by unfold maxLen; omega) (by omega) hbase ?_; intro v' w3 hown hgrow hnil)
    go_ret
    exact ⟨_, rfl, unhide FIN _ _ hown hgrow⟩
  · clear hown hb hg hs ht
    have hm2 : cap ≤ 9223372036854775807 := by unfold maxLen at hm; omega
    clear hm
    go_enter Tryz.func122, Tryz.ntmps122
    go_wp2_with (at_builtin; refine wpList_append_own _ rfl _ _ 22 rfl base 32 i0 (.slice none 0 0) 1 24 Tryz.underlying22 (unhide HI).1 (unhide HI).2.1 (unhide HI).2.2.1 (unhide HI).2.2.2 rfl (by decide) _ _ _ rfl (unhide HO) ⟨vb, 0, none⟩ 1 1 [x] rfl rfl (unhide HN) (unhide HE) (by unfold maxLen; omega) (by omega) hbase ?_; intro v' w3 hown hgrow hnil)
    all_goals
      go_ret
      exact ⟨_, rfl, unhide FIN _ _ hown hgrow⟩

set_option maxRecDepth 100000 in
set_option maxHeartbeats 4000000 in
/-- In the midst, where there is room. -/
theorem insT_room (base : Nat) (w : World) (g n cap i vb : Nat) (f : Nat → Value) (x : Value) (hown : w.ownsRow base 32 1 (.slice (some ⟨g, 0, none⟩) n cap) n ((List.range n).map f)) (hi : i < n) (hroom : n + 1 ≤ cap)
    (h1 : ∀ j, j < n → (f j).oneCell' = true) (hx1 : x.oneCell' = true) (hvb : w.heap[vb]? = some (.cells #[x] 32 (0, 0))) (hne : g ≠ vb) :
    Calls Tryz.prog 122 #[.slice (some ⟨g, 0, none⟩) n cap, .int .i64 i, .slice (some ⟨vb, 0, none⟩) 1 1] w fun e w' => ∃ r, e = .returned r ∧ Row (fun b => base ≤ b) w' r (n + 1) (insf f i x) ∧ Keeps (fun b => (Value.slice (some ⟨g, 0, none⟩) n cap).ownBlock = some b) w w' := by
  obtain ⟨i0, hi0, hz0, hz1, hz2⟩ := infoT
  obtain ⟨hb, cur, hg, hm, hcs, ht⟩ : base ≤ g ∧ ∃ cur, w.heap[g]? = some (.cells cur 32 (0, 0)) ∧ cap ≤ maxLen ∧ cur.size = cap ∧ cur.toList.take n = (List.range n).map f := by
    rcases hown.2 with ⟨h, _⟩ | ⟨g', cap', cur, h, hb, hg, hnc, hm, hs, ht⟩
    · cases h
    · cases h
      exact ⟨hb, cur, hg, hm, by omega, by rw [← ht, Nat.mul_one]⟩
  have hm2 : cap ≤ 9223372036854775807 := by unfold maxLen at hm; omega
  have hcell : ∀ j, j < n → w.cell? ⟨g, j, none⟩ = some (f j) := fun j hj => by
    rw [World.ownsRow.cellAt hown j (by omega), List.getElem?_map, List.getElem?_range hj]; rfl
  have hsp : ∀ j, j < n + 1 → (w.cell? ⟨g, j, none⟩).isSome = true := fun j hj => by
    have : j < cur.size := by omega
    simp [World.cell?, hg, this]
  have hfz : ∀ j, w.frozen? ⟨g, j, none⟩ = false := fun j => World.ownsRow.frozenAt hown j
  have hxc : w.cell? ⟨vb, 0, none⟩ = some x := by simp [World.cell?, hvb]
  have hsz : (Tryz.prog.info? 32).map (·.size) = some 1 := by rw [hi0]; simp [hz1]
  obtain ⟨cs, hcs2⟩ : ∃ cs, cs = ((List.range n).map f).drop i := ⟨_, rfl⟩
  have hcl : cs.length = n - i := by rw [hcs2]; simp
  have hcsj : ∀ (j : Nat) (u : Value), cs[j]? = some u → i + j < n ∧ u = f (i + j) := fun j u hj => by
    rw [hcs2, List.getElem?_drop, List.getElem?_map] at hj
    by_cases hlt : i + j < n
    · rw [List.getElem?_range hlt] at hj
      exact ⟨hlt, by simpa using hj.symm⟩
    · rw [List.getElem?_eq_none (by simp; omega)] at hj
      cases hj
  have hc1 : ∀ u ∈ cs, u.oneCell' = true := fun u hu => by
    obtain ⟨j, hj, e⟩ := List.getElem_of_mem hu
    obtain ⟨h2, h3⟩ := hcsj j u (by rw [← e]; simp [hj])
    rw [h3]
    exact h1 _ h2
  have hov : ∀ lb cb, (callFunc 146 #[.slice (some ⟨vb, 0, none⟩) 1 1, .slice (some ⟨g, i + 1, none⟩) lb cb]).run Tryz.prog w = .ok (.value (.bool false)) w := fun lb cb => by
    rw [run_callFunc_extern Tryz.func146 (by kernel_rfl) (by kernel_rfl) (by kernel_rfl) (e := Extern.SlicesOverlaps.overlaps #[22, 22] #[4]) (by kernel_rfl),
      Lib.run_overlaps_apart w 22 4 32 Tryz.underlying22 1 Tryz.sizeOf32 ⟨vb, 0, none⟩ ⟨g, i + 1, none⟩ 1 1 lb cb (fun e => hne e.symm) 32 32 1 cap (by simp [World.shape?, hvb]) (by simp [World.shape?, hg, hcs]) (by omega) (by simp [World.frozen?, hvb]) (by simp [World.frozen?, hvb])]
    rfl
  have hcp1 : ∀ ty dc sc, (Builtin.copy_ #[22, 22] ty #[.slice (some ⟨g, i + 1, none⟩) (n - i) dc, .slice (some ⟨g, i, none⟩) (n + 1 - i) sc]).run Tryz.prog w.drew = .ok (goInt cs.length) (w.drew.setCells g (i + 1) cs) := fun ty dc sc =>
    run_copy_cells w.drew _ _ ty 32 g (i + 1) (n - i) dc ⟨g, i, none⟩ (n + 1 - i) sc cs Tryz.underlying22 hsz (by rw [hcl]; simp only [Nat.min_def]; split <;> omega)
      (fun j u hj => by
        obtain ⟨h2, h3⟩ := hcsj j u hj
        rw [Addr.add_lit, h3]
        exact hcell _ h2)
      (fun j hj => hsp _ (by omega)) (fun j _ => hfz _) hc1
  obtain ⟨W1, hW1⟩ : ∃ W1, W1 = w.drew.setCells g (i + 1) cs := ⟨_, rfl⟩
  have hsp1 : ∀ k, k < n + 1 → (W1.cell? ⟨g, k, none⟩).isSome = true := fun k hk => by
    rw [hW1]
    exact some_setCells g cs (i + 1) w.drew (fun j hj => hsp _ (by omega)) _ (hsp k hk)
  have hcp2 : ∀ (W : World), (∀ x, W.cell? x = W1.cell? x) → (∀ x, W.frozen? x = W1.frozen? x) → ∀ ty dc, (Builtin.copy_ #[22, 22] ty #[.slice (some ⟨g, i, none⟩) (n + 1 - i) dc, .slice (some ⟨vb, 0, none⟩) 1 1]).run Tryz.prog W = .ok (goInt ([x] : List Value).length) (W.setCells g i [x]) := fun W hWc hWf ty dc =>
    run_copy_cells W _ _ ty 32 g i (n + 1 - i) dc ⟨vb, 0, none⟩ 1 1 [x] Tryz.underlying22 hsz (by simp only [List.length_cons, List.length_nil, Nat.min_def]; split <;> omega)
      (fun j u hj => by
        match j, hj with
        | 0, hj => cases hj; rw [Addr.add_lit, hWc, hW1, World.cell?_setCells_out g _ _ _ _ (fun h _ => absurd h.symm hne)]; exact hxc
        | j + 1, hj => simp at hj)
      (fun j hj => by rw [hWc]; exact hsp1 _ (by simp at hj; omega)) (fun j _ => by rw [hWf, hW1, World.frozen?_setCells]; exact hfz _) (fun u hu => by simp at hu; subst hu; exact hx1)
  have hfin : Row (fun b => base ≤ b) (W1.setCells g i [x]) (.slice (some ⟨g, 0, none⟩) (n + 1) cap) (n + 1) (insf f i x) ∧ Keeps (fun b => (Value.slice (some ⟨g, 0, none⟩) n cap).ownBlock = some b) w (W1.setCells g i [x]) := by
    refine ⟨⟨_, _, rfl, hroom, hm2, fun j hj => ⟨g, 0, rfl, hb, ?_⟩⟩, ?_⟩
    · rw [Nat.zero_add]
      rcases Nat.lt_trichotomy j i with h | h | h
      · rw [World.cell?_setCells_out _ _ _ _ _ (fun _ _ => .inl h), hW1, World.cell?_setCells_out _ _ _ _ _ (fun _ _ => .inl (show j < i + 1 by omega)), insf_lt h]
        exact hcell j (by omega)
      · subst h
        have := World.cell?_setCells_in g [x] j W1 (fun t ht => hsp1 _ (by simp at ht; omega)) 0 (by simp)
        rw [Nat.add_zero] at this
        rw [this, insf_eq]
        rfl
      · rw [World.cell?_setCells_out _ _ _ _ _ (fun _ _ => .inr (show i + 1 ≤ j by omega)), hW1]
        have := World.cell?_setCells_in g cs (i + 1) w.drew (fun t ht => hsp _ (by omega)) (j - (i + 1)) (by omega)
        rw [show i + 1 + (j - (i + 1)) = j by omega] at this
        rw [this, insf_gt h]
        obtain ⟨_, h3⟩ := hcsj (j - (i + 1)) _ (List.getElem?_eq_getElem (by omega))
        rw [h3, show i + (j - (i + 1)) = j - 1 by omega]
    · rw [hW1]
      have hO : Keeps (fun b => (Value.slice (some ⟨g, 0, none⟩) n cap).ownBlock = some b) w w := Keeps.refl _ w
      exact (hO.drew.cells (.inl rfl) _ _).cells (.inl rfl) _ _
  rw [hW1] at hfin
  have FIN := hide hfin
  rw [← hW1] at hcp1
  have hz2 : ¬ ((i : Int) = (n : Int)) := by omega
  have mixed : Tryz.prog.follows .mixedOrders = true := by kernel_rfl
  have hin : i ≤ n := by omega
  have hb2 : ¬ (cap = i + 1) := by omega
  have hw1 : IntKind.i64.wrap ((i : Int) + 1) = (i : Int) + 1 := by rw [IntKind.wrap_i64]; omega
  have hb1 : (0 : Int) ≤ (i : Int) + 1 := by omega
  have htn : ((i : Int) + 1).toNat = i + 1 := by omega
  have hb3 : (i : Int) ≤ (n : Int) + 1 := by omega
  have hb5 : (i : Int) + 1 ≤ (n : Int) + 1 := by omega
  have hb4 : ¬ (cap = i) := by omega
  clear hfin hsp1 hc1 hcsj hcl hcs2 hfz hsp hcell ht hcs hg hm hown h1 hvb hxc
  go_enter Tryz.func122, Tryz.ntmps122
  go_wp2_with (simp only [hov])
  go_region_law_o (refine copy_drawn rfl _ _ 22 rfl _ _ (by simp [Act.eval, Act.put]) (by simp [Act.eval, Act.put]) (hcp1 _ _ _) ?_)
  go_wp2_with (at_builtin; refine copy_step rfl _ _ 22 rfl _ _ rfl rfl (hcp2 _ (fun _ => rfl) (fun _ => rfl) _ _) ?_)
  go_ret
  exact ⟨_, rfl, unhide FIN⟩

set_option maxRecDepth 100000 in
set_option maxHeartbeats 4000000 in
/-- In the midst, where there is no room. -/
theorem insT_grow (base : Nat) (w : World) (g n cap i vb : Nat) (f : Nat → Value) (x : Value) (hown : w.ownsRow base 32 1 (.slice (some ⟨g, 0, none⟩) n cap) n ((List.range n).map f)) (hi : i < n) (hnc : n ≤ cap) (hroom : cap < n + 1) (hn : n ≤ 1000)
    (h1 : ∀ j, j < n → (f j).oneCell' = true) (hx1 : x.oneCell' = true) (hxc : w.cell? ⟨vb, 0, none⟩ = some x) (hbase : base ≤ w.heap.size) :
    Calls Tryz.prog 122 #[.slice (some ⟨g, 0, none⟩) n cap, .int .i64 i, .slice (some ⟨vb, 0, none⟩) 1 1] w fun e w' => ∃ r, e = .returned r ∧ Row (fun b => base ≤ b) w' r (n + 1) (insf f i x) ∧ Keeps (fun b => (Value.slice (some ⟨g, 0, none⟩) n cap).ownBlock = some b) w w' := by
  obtain ⟨i0, hi0, hz0, hz1, hz2⟩ := infoT
  have hcell : ∀ j, j < n → w.cell? ⟨g, j, none⟩ = some (f j) := fun j hj => by
    rw [World.ownsRow.cellAt hown j (by omega), List.getElem?_map, List.getElem?_range hj]; rfl
  have hsz : (Tryz.prog.info? 32).map (·.size) = some 1 := by rw [hi0]; simp [hz1]
  obtain ⟨cs, hcs2⟩ : ∃ cs, cs = ((List.range n).map f).drop i := ⟨_, rfl⟩
  have hcl : cs.length = n - i := by rw [hcs2]; simp
  have hcsj : ∀ (j : Nat) (u : Value), cs[j]? = some u → i + j < n ∧ u = f (i + j) := fun j u hj => by
    rw [hcs2, List.getElem?_drop, List.getElem?_map] at hj
    by_cases hlt : i + j < n
    · rw [List.getElem?_range hlt] at hj
      exact ⟨hlt, by simpa using hj.symm⟩
    · rw [List.getElem?_eq_none (by simp; omega)] at hj
      cases hj
  have hc1 : ∀ u ∈ cs, u.oneCell' = true := fun u hu => by
    obtain ⟨j, hj, e⟩ := List.getElem_of_mem hu
    obtain ⟨h2, h3⟩ := hcsj j u (by rw [← e]; simp [hj])
    rw [h3]
    exact h1 _ h2
  obtain ⟨hs, hhs⟩ : ∃ hs, hs = (List.range i).map f := ⟨_, rfl⟩
  have hold : (Builtin.firstCells i0.size i (.slice (some ⟨g, 0, none⟩) i cap)).run Tryz.prog w.drew = .ok hs.toArray w.drew := by
    rw [hz1]
    exact run_firstCells_some w.drew 1 i ⟨g, 0, none⟩ i cap hs (by rw [hhs]; simp) (fun j u hj => by
      rw [hhs, List.getElem?_map] at hj
      rw [Addr.add_lit, Nat.zero_add]
      by_cases hlt : j < i
      · rw [List.getElem?_range hlt] at hj
        cases hj
        exact hcell j (by omega)
      · rw [List.getElem?_eq_none (by simp; omega)] at hj
        cases hj)
  obtain ⟨G, hG⟩ : ∃ G, G = grownCap w (n + 1) cap 32 := ⟨_, rfl⟩
  obtain ⟨ROW, hROW⟩ : ∃ ROW : Array Value, ROW = hs.toArray ++ Builtin.zeroCells ((.slice none 0 0) : Value).cells (n + 1 - i) ++ Builtin.zeroCells ((.slice none 0 0) : Value).cells (G - (n + 1)) := ⟨_, rfl⟩
  have hrz : ∀ ty, (Builtin.append_ #[22, 3] ty #[.slice (some ⟨g, 0, none⟩) i cap, .int .i64 ((n : Int) + 1 - (i : Int))]).run Tryz.prog w =
      .ok (.slice (some ⟨w.heap.size, 0, none⟩) (n + 1) G) (w.drew.alloc (.cells ROW 32)) := fun ty => by
    have hik : i + (n + 1 - i) = n + 1 := by omega
    have h := Lib.run_append_grow_zeros w 22 3 ty 32 i0 (.slice none 0 0) .i64 .i64 Tryz.underlying22 Tryz.underlying3 hi0 hz0 (some ⟨g, 0, none⟩) i cap hs hold (n + 1 - i) (by omega) (by omega) (by omega) (by omega) (by rw [hz2]; omega) (by rw [hz2, hik]; exact growslice_fits hroom (by omega))
    rw [hik] at h
    rw [show (n : Int) + 1 - (i : Int) = ((n + 1 - i : Nat) : Int) by omega, hROW, hG]
    exact h
  have hGn : n + 1 ≤ G := by rw [hG]; exact grownCap_ge w _ _ _
  have hG63 : G ≤ 9223372036854775807 := by
    have := grownCap_le_maxLen w (n + 1) cap 32 (by unfold maxLen; omega)
    rw [← hG] at this
    unfold maxLen at this
    omega
  have hhl : hs.length = i := by rw [hhs]; simp
  have hRl : n + 1 ≤ ROW.size := by
    rw [hROW]
    simp [Builtin.zeroCells, Value.cells, hhl]
    omega
  obtain ⟨W1, hW1⟩ : ∃ W1, W1 = w.drew.alloc (.cells ROW 32) := ⟨_, rfl⟩
  rw [← hW1] at hrz
  have hN : ∀ j, j < n + 1 → (W1.cell? ⟨w.heap.size, j, none⟩).isSome = true := fun j hj => by
    rw [hW1, World.cell?_alloc_at (w := w.drew) ROW _ w.heap.size j rfl, Array.getElem?_eq_getElem (by omega)]; rfl
  have hN0 : ∀ j, j < i → W1.cell? ⟨w.heap.size, j, none⟩ = some (f j) := fun j hj => by
    rw [hW1, World.cell?_alloc_at (w := w.drew) ROW _ w.heap.size j rfl, hROW, Array.append_assoc, Array.getElem?_append_left (by simp [hhl]; omega), hhs]
    simp [hj]
  have hNf : ∀ j, W1.frozen? ⟨w.heap.size, j, none⟩ = false := fun j => by rw [hW1]; exact World.frozen?_alloc_at (w := w.drew) ROW _ w.heap.size j rfl
  have hOld : ∀ b j u, w.cell? ⟨b, j, none⟩ = some u → W1.cell? ⟨b, j, none⟩ = some u := fun b j u h => by
    obtain ⟨o, ho, _⟩ := cells_of_cell h
    rw [hW1, World.cell?_alloc_past (w := w.drew) _ b j (lt_heap ho)]; exact h
  have hgN : g ≠ w.heap.size := by
    obtain ⟨o, ho, _⟩ := cells_of_cell (hcell 0 (by omega))
    have := lt_heap ho
    simp at this
    omega
  have hcpA : ∀ (W : World), (∀ x, W.cell? x = W1.cell? x) → (∀ x, W.frozen? x = W1.frozen? x) → ∀ ty dc, (Builtin.copy_ #[22, 22] ty #[.slice (some ⟨w.heap.size, i, none⟩) (n + 1 - i) dc, .slice (some ⟨vb, 0, none⟩) 1 1]).run Tryz.prog W = .ok (goInt ([x] : List Value).length) (W.setCells w.heap.size i [x]) := fun W hWc hWf ty dc =>
    run_copy_cells W _ _ ty 32 w.heap.size i (n + 1 - i) dc ⟨vb, 0, none⟩ 1 1 [x] Tryz.underlying22 hsz (by simp only [List.length_cons, List.length_nil, Nat.min_def]; split <;> omega)
      (fun j u hj => by
        match j, hj with
        | 0, hj => cases hj; rw [Addr.add_lit, hWc]; exact hOld _ _ _ hxc
        | j + 1, hj => simp at hj)
      (fun j hj => by rw [hWc]; exact hN _ (by simp at hj; omega)) (fun j _ => by rw [hWf]; exact hNf _) (fun u hu => by simp at hu; subst hu; exact hx1)
  have hcpB : ∀ (W : World), (∀ y, W.cell? y = (W1.setCells w.heap.size i [x]).cell? y) → (∀ y, W.frozen? y = (W1.setCells w.heap.size i [x]).frozen? y) → ∀ ty dc sc, (Builtin.copy_ #[22, 22] ty #[.slice (some ⟨w.heap.size, i + 1, none⟩) (n - i) dc, .slice (some ⟨g, i, none⟩) (n - i) sc]).run Tryz.prog W = .ok (goInt cs.length) (W.setCells w.heap.size (i + 1) cs) := fun W hWc hWf ty dc sc =>
    run_copy_cells W _ _ ty 32 w.heap.size (i + 1) (n - i) dc ⟨g, i, none⟩ (n - i) sc cs Tryz.underlying22 hsz (by rw [hcl]; simp only [Nat.min_def]; split <;> omega)
      (fun j u hj => by
        obtain ⟨h2, h3⟩ := hcsj j u hj
        rw [Addr.add_lit, hWc, World.cell?_setCells_out _ _ _ _ _ (fun h _ => absurd h hgN), h3]
        exact hOld _ _ _ (hcell _ h2))
      (fun j hj => by rw [hWc]; exact some_setCells _ _ _ _ (fun t ht => hN _ (by simp at ht; omega)) _ (hN _ (by omega)))
      (fun j _ => by rw [hWf, World.frozen?_setCells]; exact hNf _) hc1
  have hfin : ∀ W, (∀ y, W.cell? y = ((W1.setCells w.heap.size i [x]).setCells w.heap.size (i + 1) cs).cell? y) → Row (fun b => base ≤ b) W (.slice (some ⟨w.heap.size, 0, none⟩) (n + 1) G) (n + 1) (insf f i x) := fun W hW => by
    refine ⟨_, _, rfl, hGn, hG63, fun j hj => ⟨w.heap.size, 0, rfl, hbase, ?_⟩⟩
    rw [Nat.zero_add, hW]
    rcases Nat.lt_trichotomy j i with h | h | h
    · rw [World.cell?_setCells_out _ _ _ _ _ (fun _ _ => .inl (show j < i + 1 by omega)), World.cell?_setCells_out _ _ _ _ _ (fun _ _ => .inl h), insf_lt h]
      exact hN0 j h
    · subst h
      rw [World.cell?_setCells_out _ _ _ _ _ (fun _ _ => .inl (show j < j + 1 by omega))]
      have := World.cell?_setCells_in w.heap.size [x] j W1 (fun t ht => hN _ (by simp at ht; omega)) 0 (by simp)
      rw [Nat.add_zero] at this
      rw [this, insf_eq]
      rfl
    · have := World.cell?_setCells_in w.heap.size cs (i + 1) (W1.setCells w.heap.size i [x]) (fun t ht => some_setCells _ _ _ _ (fun t ht => hN _ (by simp at ht; omega)) _ (hN _ (by omega))) (j - (i + 1)) (by omega)
      rw [show i + 1 + (j - (i + 1)) = j by omega] at this
      rw [this, insf_gt h]
      obtain ⟨_, h3⟩ := hcsj (j - (i + 1)) _ (List.getElem?_eq_getElem (by omega))
      rw [h3, show i + (j - (i + 1)) = j - 1 by omega]
  have FIN := hide hfin
  subst hW1
  have hE1 : ∀ x, ((w.alloc (.cells ROW 32)).drew).cell? x = (w.drew.alloc (.cells ROW 32)).cell? x := fun x => rfl
  have hE2 : ∀ x, ((w.alloc (.cells ROW 32)).drew).frozen? x = (w.drew.alloc (.cells ROW 32)).frozen? x := fun x => rfl
  have hF1 : ∀ y, (((w.alloc (.cells ROW 32)).drew.setCells w.heap.size i [x]).drew).cell? y = ((w.drew.alloc (.cells ROW 32)).setCells w.heap.size i [x]).cell? y := fun y => rfl
  have hF2 : ∀ y, (((w.alloc (.cells ROW 32)).drew.setCells w.heap.size i [x]).drew).frozen? y = ((w.drew.alloc (.cells ROW 32)).setCells w.heap.size i [x]).frozen? y := fun y => rfl
  have hz3 : (cap : Int) < (n : Int) + 1 := by omega
  have hz4 : ¬ ((i : Int) = (n : Int)) := by omega
  have mixed : Tryz.prog.follows .mixedOrders = true := by kernel_rfl
  have hin : i ≤ n := by omega
  have hw1 : IntKind.i64.wrap ((i : Int) + 1) = (i : Int) + 1 := by rw [IntKind.wrap_i64]; omega
  have hb1 : (0 : Int) ≤ (i : Int) + 1 := by omega
  have htn : ((i : Int) + 1).toNat = i + 1 := by omega
  have hGi : ¬ (G = i) := by omega
  have hGim : ¬ (G = i + 1) := by omega
  have hci : ¬ (cap = i) := by omega
  have hb3 : (i : Int) ≤ (n : Int) := by omega
  clear hfin hc1 hcsj hcl hcs2 hcell hown h1 hxc hold hROW hG hRl hhl hN hN0 hNf hOld hhs
  go_enter Tryz.func122, Tryz.ntmps122
  go_wp2_with (first
    | (at_builtin; refine Lib.wpList_append_run _ rfl _ _ _ _ rfl _ _ rfl rfl _ _ (hrz _) ?_)
    | (at_builtin; refine copy_step rfl _ _ 22 rfl _ _ rfl rfl (hcpA _ hE1 hE2 _ _) ?_))
  have hcc := hcpB _ hF1 hF2 3 (G - (i + 1)) (cap - i)
  go_region_law_o (refine copy_drawn rfl _ _ 22 rfl _ _ (by simp [Act.eval, Act.put]) (by simp [Act.eval, Act.put]) hcc ?_)
  go_wp2
  go_ret
  refine ⟨_, rfl, unhide FIN _ (fun y => by rw [setCells_drew]; rfl), ?_⟩
  exact ((((Keeps.refl _ w).alloc _).drew.cells (.inr (Nat.le_refl _)) _ _).drew).cells (.inr (Nat.le_refl _)) _ _

/-- Wherever. -/
theorem insT_any (base : Nat) (w : World) (v : Value) (n i vb : Nat) (f : Nat → Value) (x : Value) (hown : w.ownsRow base 32 1 v n ((List.range n).map f)) (hi : i ≤ n) (hn : n ≤ 1000) (h1 : ∀ j, j < n → (f j).oneCell' = true) (hx1 : x.oneCell' = true)
    (hvb : w.heap[vb]? = some (.cells #[x] 32 (0, 0))) (hne : v.ownBlock ≠ some vb) (hbase : base ≤ w.heap.size) :
    Calls Tryz.prog 122 #[v, .int .i64 i, .slice (some ⟨vb, 0, none⟩) 1 1] w fun e w' => ∃ r, e = .returned r ∧ Row (fun b => base ≤ b) w' r (n + 1) (insf f i x) ∧ Keeps (fun b => v.ownBlock = some b) w w' := by
  have hxc : w.cell? ⟨vb, 0, none⟩ = some x := by simp [World.cell?, hvb]
  rcases Nat.lt_or_ge i n with h | h
  · rcases hown.2 with ⟨rfl, h0⟩ | ⟨g, cap, cur, rfl, hb, hg, hnc, hm, hs, ht⟩
    · omega
    · rcases Nat.lt_or_ge cap (n + 1) with h2 | h2
      · exact insT_grow base w g n cap i vb f x hown h hnc h2 hn h1 hx1 hxc hbase
      · exact insT_room base w g n cap i vb f x hown h h2 h1 hx1 hvb (fun e => hne (by rw [e]; rfl))
  · obtain rfl : i = n := by omega
    exact insT_end base w v i vb f x hown hn hx1 hxc hbase

set_option maxRecDepth 100000 in
set_option maxHeartbeats 4000000 in
/-- At the end. -/
theorem insK_end (base : Nat) (w : World) (v : Value) (n vb : Nat) (f : Nat → Value) (x : Value) (hown : w.ownsRow base 100 1 v n ((List.range n).map f)) (hn : n ≤ 1000) (hx1 : x.oneCell' = true)
    (hvb : w.cell? ⟨vb, 0, none⟩ = some x) (hbase : base ≤ w.heap.size) :
    Calls Tryz.prog 145 #[v, .int .i64 n, .slice (some ⟨vb, 0, none⟩) 1 1] w fun e w' => ∃ r, e = .returned r ∧ Row (fun b => base ≤ b) w' r (n + 1) (insf f n x) ∧ Keeps (fun b => v.ownBlock = some b) w w' := by
  obtain ⟨i0, hi, hz0, hz1, hz2⟩ := infoK
  have HI := hide (And.intro hi (And.intro hz0 (And.intro hz1 hz2)))
  clear hi hz0 hz1 hz2
  have HN : Hid (∀ j u, [x][j]? = some u → w.cell? ((⟨vb, 0, none⟩ : Addr).add j) = some u) := fun j u hj => by
    match j, hj with
    | 0, hj => cases hj; rw [Addr.add_lit]; exact hvb
    | j + 1, hj => simp at hj
  have HE : Hid (∀ u ∈ [x], u.oneCell' = true) := fun u hu => by simp at hu; subst hu; exact hx1
  have HO := hide hown
  have HF : Hid ((List.range (n + 1)).map (insf f n x) = (List.range n).map f ++ [x]) := by
    show _ = _
    rw [List.range_succ, List.map_append]
    congr 1
    · apply List.map_congr_left
      intro j hj
      exact insf_lt (List.mem_range.1 hj)
    · simp [insf]
  have fin : ∀ (v' : Value) (w' : World), w'.ownsRow base 100 1 v' (n + 1) ((List.range n).map f ++ [x]) → w.grownBy w' v.ownBlock → Row (fun b => base ≤ b) w' v' (n + 1) (insf f n x) ∧ Keeps (fun b => v.ownBlock = some b) w w' := fun v' w' ho hg => by
    exact ⟨Row.of_own (by rw [unhide HF]; exact ho), Keeps.of_grown hg⟩
  have FIN := hide fin
  clear fin
  have q : ¬ ((1 : Int) = 0) := by omega
  rcases hown.2 with ⟨rfl, h0⟩ | ⟨g, cap, cur, rfl, hb, hg, hnc, hm, hs, ht⟩
  · subst h0
    clear hown
    go_enter Tryz.func145, Tryz.ntmps145
    go_wp2_with (at_builtin; refine wpList_append_own _ rfl _ _ 169 rfl base 100 i0 (.pointer none) 1 8 Tryz.underlying169 (unhide HI).1 (unhide HI).2.1 (unhide HI).2.2.1 (unhide HI).2.2.2 rfl (by decide) _ _ _ rfl (unhide HO) ⟨vb, 0, none⟩ 1 1 [x] rfl rfl (unhide HN) (unhide HE) (by unfold maxLen; omega) (by omega) hbase ?_; intro v' w3 hown hgrow hnil)
    go_ret
    exact ⟨_, rfl, unhide FIN _ _ hown hgrow⟩
  · clear hown hb hg hs ht
    have hm2 : cap ≤ 9223372036854775807 := by unfold maxLen at hm; omega
    clear hm
    go_enter Tryz.func145, Tryz.ntmps145
    go_wp2_with (at_builtin; refine wpList_append_own _ rfl _ _ 169 rfl base 100 i0 (.pointer none) 1 8 Tryz.underlying169 (unhide HI).1 (unhide HI).2.1 (unhide HI).2.2.1 (unhide HI).2.2.2 rfl (by decide) _ _ _ rfl (unhide HO) ⟨vb, 0, none⟩ 1 1 [x] rfl rfl (unhide HN) (unhide HE) (by unfold maxLen; omega) (by omega) hbase ?_; intro v' w3 hown hgrow hnil)
    all_goals
      go_ret
      exact ⟨_, rfl, unhide FIN _ _ hown hgrow⟩

set_option maxRecDepth 100000 in
set_option maxHeartbeats 4000000 in
/-- In the midst, where there is room. -/
theorem insK_room (base : Nat) (w : World) (g n cap i vb : Nat) (f : Nat → Value) (x : Value) (hown : w.ownsRow base 100 1 (.slice (some ⟨g, 0, none⟩) n cap) n ((List.range n).map f)) (hi : i < n) (hroom : n + 1 ≤ cap)
    (h1 : ∀ j, j < n → (f j).oneCell' = true) (hx1 : x.oneCell' = true) (hvb : w.heap[vb]? = some (.cells #[x] 100 (0, 0))) (hne : g ≠ vb) :
    Calls Tryz.prog 145 #[.slice (some ⟨g, 0, none⟩) n cap, .int .i64 i, .slice (some ⟨vb, 0, none⟩) 1 1] w fun e w' => ∃ r, e = .returned r ∧ Row (fun b => base ≤ b) w' r (n + 1) (insf f i x) ∧ Keeps (fun b => (Value.slice (some ⟨g, 0, none⟩) n cap).ownBlock = some b) w w' := by
  obtain ⟨i0, hi0, hz0, hz1, hz2⟩ := infoK
  obtain ⟨hb, cur, hg, hm, hcs, ht⟩ : base ≤ g ∧ ∃ cur, w.heap[g]? = some (.cells cur 100 (0, 0)) ∧ cap ≤ maxLen ∧ cur.size = cap ∧ cur.toList.take n = (List.range n).map f := by
    rcases hown.2 with ⟨h, _⟩ | ⟨g', cap', cur, h, hb, hg, hnc, hm, hs, ht⟩
    · cases h
    · cases h
      exact ⟨hb, cur, hg, hm, by omega, by rw [← ht, Nat.mul_one]⟩
  have hm2 : cap ≤ 9223372036854775807 := by unfold maxLen at hm; omega
  have hcell : ∀ j, j < n → w.cell? ⟨g, j, none⟩ = some (f j) := fun j hj => by
    rw [World.ownsRow.cellAt hown j (by omega), List.getElem?_map, List.getElem?_range hj]; rfl
  have hsp : ∀ j, j < n + 1 → (w.cell? ⟨g, j, none⟩).isSome = true := fun j hj => by
    have : j < cur.size := by omega
    simp [World.cell?, hg, this]
  have hfz : ∀ j, w.frozen? ⟨g, j, none⟩ = false := fun j => World.ownsRow.frozenAt hown j
  have hxc : w.cell? ⟨vb, 0, none⟩ = some x := by simp [World.cell?, hvb]
  have hsz : (Tryz.prog.info? 100).map (·.size) = some 1 := by rw [hi0]; simp [hz1]
  obtain ⟨cs, hcs2⟩ : ∃ cs, cs = ((List.range n).map f).drop i := ⟨_, rfl⟩
  have hcl : cs.length = n - i := by rw [hcs2]; simp
  have hcsj : ∀ (j : Nat) (u : Value), cs[j]? = some u → i + j < n ∧ u = f (i + j) := fun j u hj => by
    rw [hcs2, List.getElem?_drop, List.getElem?_map] at hj
    by_cases hlt : i + j < n
    · rw [List.getElem?_range hlt] at hj
      exact ⟨hlt, by simpa using hj.symm⟩
    · rw [List.getElem?_eq_none (by simp; omega)] at hj
      cases hj
  have hc1 : ∀ u ∈ cs, u.oneCell' = true := fun u hu => by
    obtain ⟨j, hj, e⟩ := List.getElem_of_mem hu
    obtain ⟨h2, h3⟩ := hcsj j u (by rw [← e]; simp [hj])
    rw [h3]
    exact h1 _ h2
  have hov : ∀ lb cb, (callFunc 153 #[.slice (some ⟨vb, 0, none⟩) 1 1, .slice (some ⟨g, i + 1, none⟩) lb cb]).run Tryz.prog w = .ok (.value (.bool false)) w := fun lb cb => by
    rw [run_callFunc_extern Tryz.func153 (by kernel_rfl) (by kernel_rfl) (by kernel_rfl) (e := Extern.SlicesOverlaps.overlaps #[169, 169] #[4]) (by kernel_rfl),
      Lib.run_overlaps_apart w 169 4 100 Tryz.underlying169 1 Tryz.sizeOf100 ⟨vb, 0, none⟩ ⟨g, i + 1, none⟩ 1 1 lb cb (fun e => hne e.symm) 100 100 1 cap (by simp [World.shape?, hvb]) (by simp [World.shape?, hg, hcs]) (by omega) (by simp [World.frozen?, hvb]) (by simp [World.frozen?, hvb])]
    rfl
  have hcp1 : ∀ ty dc sc, (Builtin.copy_ #[169, 169] ty #[.slice (some ⟨g, i + 1, none⟩) (n - i) dc, .slice (some ⟨g, i, none⟩) (n + 1 - i) sc]).run Tryz.prog w.drew = .ok (goInt cs.length) (w.drew.setCells g (i + 1) cs) := fun ty dc sc =>
    run_copy_cells w.drew _ _ ty 100 g (i + 1) (n - i) dc ⟨g, i, none⟩ (n + 1 - i) sc cs Tryz.underlying169 hsz (by rw [hcl]; simp only [Nat.min_def]; split <;> omega)
      (fun j u hj => by
        obtain ⟨h2, h3⟩ := hcsj j u hj
        rw [Addr.add_lit, h3]
        exact hcell _ h2)
      (fun j hj => hsp _ (by omega)) (fun j _ => hfz _) hc1
  obtain ⟨W1, hW1⟩ : ∃ W1, W1 = w.drew.setCells g (i + 1) cs := ⟨_, rfl⟩
  have hsp1 : ∀ k, k < n + 1 → (W1.cell? ⟨g, k, none⟩).isSome = true := fun k hk => by
    rw [hW1]
    exact some_setCells g cs (i + 1) w.drew (fun j hj => hsp _ (by omega)) _ (hsp k hk)
  have hcp2 : ∀ (W : World), (∀ x, W.cell? x = W1.cell? x) → (∀ x, W.frozen? x = W1.frozen? x) → ∀ ty dc, (Builtin.copy_ #[169, 169] ty #[.slice (some ⟨g, i, none⟩) (n + 1 - i) dc, .slice (some ⟨vb, 0, none⟩) 1 1]).run Tryz.prog W = .ok (goInt ([x] : List Value).length) (W.setCells g i [x]) := fun W hWc hWf ty dc =>
    run_copy_cells W _ _ ty 100 g i (n + 1 - i) dc ⟨vb, 0, none⟩ 1 1 [x] Tryz.underlying169 hsz (by simp only [List.length_cons, List.length_nil, Nat.min_def]; split <;> omega)
      (fun j u hj => by
        match j, hj with
        | 0, hj => cases hj; rw [Addr.add_lit, hWc, hW1, World.cell?_setCells_out g _ _ _ _ (fun h _ => absurd h.symm hne)]; exact hxc
        | j + 1, hj => simp at hj)
      (fun j hj => by rw [hWc]; exact hsp1 _ (by simp at hj; omega)) (fun j _ => by rw [hWf, hW1, World.frozen?_setCells]; exact hfz _) (fun u hu => by simp at hu; subst hu; exact hx1)
  have hfin : Row (fun b => base ≤ b) (W1.setCells g i [x]) (.slice (some ⟨g, 0, none⟩) (n + 1) cap) (n + 1) (insf f i x) ∧ Keeps (fun b => (Value.slice (some ⟨g, 0, none⟩) n cap).ownBlock = some b) w (W1.setCells g i [x]) := by
    refine ⟨⟨_, _, rfl, hroom, hm2, fun j hj => ⟨g, 0, rfl, hb, ?_⟩⟩, ?_⟩
    · rw [Nat.zero_add]
      rcases Nat.lt_trichotomy j i with h | h | h
      · rw [World.cell?_setCells_out _ _ _ _ _ (fun _ _ => .inl h), hW1, World.cell?_setCells_out _ _ _ _ _ (fun _ _ => .inl (show j < i + 1 by omega)), insf_lt h]
        exact hcell j (by omega)
      · subst h
        have := World.cell?_setCells_in g [x] j W1 (fun t ht => hsp1 _ (by simp at ht; omega)) 0 (by simp)
        rw [Nat.add_zero] at this
        rw [this, insf_eq]
        rfl
      · rw [World.cell?_setCells_out _ _ _ _ _ (fun _ _ => .inr (show i + 1 ≤ j by omega)), hW1]
        have := World.cell?_setCells_in g cs (i + 1) w.drew (fun t ht => hsp _ (by omega)) (j - (i + 1)) (by omega)
        rw [show i + 1 + (j - (i + 1)) = j by omega] at this
        rw [this, insf_gt h]
        obtain ⟨_, h3⟩ := hcsj (j - (i + 1)) _ (List.getElem?_eq_getElem (by omega))
        rw [h3, show i + (j - (i + 1)) = j - 1 by omega]
    · rw [hW1]
      have hO : Keeps (fun b => (Value.slice (some ⟨g, 0, none⟩) n cap).ownBlock = some b) w w := Keeps.refl _ w
      exact (hO.drew.cells (.inl rfl) _ _).cells (.inl rfl) _ _
  rw [hW1] at hfin
  have FIN := hide hfin
  rw [← hW1] at hcp1
  have hz2 : ¬ ((i : Int) = (n : Int)) := by omega
  have mixed : Tryz.prog.follows .mixedOrders = true := by kernel_rfl
  have hin : i ≤ n := by omega
  have hb2 : ¬ (cap = i + 1) := by omega
  have hw1 : IntKind.i64.wrap ((i : Int) + 1) = (i : Int) + 1 := by rw [IntKind.wrap_i64]; omega
  have hb1 : (0 : Int) ≤ (i : Int) + 1 := by omega
  have htn : ((i : Int) + 1).toNat = i + 1 := by omega
  have hb3 : (i : Int) ≤ (n : Int) + 1 := by omega
  have hb5 : (i : Int) + 1 ≤ (n : Int) + 1 := by omega
  have hb4 : ¬ (cap = i) := by omega
  clear hfin hsp1 hc1 hcsj hcl hcs2 hfz hsp hcell ht hcs hg hm hown h1 hvb hxc
  go_enter Tryz.func145, Tryz.ntmps145
  go_wp2_with (simp only [hov])
  go_region_law_o (refine copy_drawn rfl _ _ 169 rfl _ _ (by simp [Act.eval, Act.put]) (by simp [Act.eval, Act.put]) (hcp1 _ _ _) ?_)
  go_wp2_with (at_builtin; refine copy_step rfl _ _ 169 rfl _ _ rfl rfl (hcp2 _ (fun _ => rfl) (fun _ => rfl) _ _) ?_)
  go_ret
  exact ⟨_, rfl, unhide FIN⟩

set_option maxRecDepth 100000 in
set_option maxHeartbeats 4000000 in
/-- In the midst, where there is no room. -/
theorem insK_grow (base : Nat) (w : World) (g n cap i vb : Nat) (f : Nat → Value) (x : Value) (hown : w.ownsRow base 100 1 (.slice (some ⟨g, 0, none⟩) n cap) n ((List.range n).map f)) (hi : i < n) (hnc : n ≤ cap) (hroom : cap < n + 1) (hn : n ≤ 1000)
    (h1 : ∀ j, j < n → (f j).oneCell' = true) (hx1 : x.oneCell' = true) (hxc : w.cell? ⟨vb, 0, none⟩ = some x) (hbase : base ≤ w.heap.size) :
    Calls Tryz.prog 145 #[.slice (some ⟨g, 0, none⟩) n cap, .int .i64 i, .slice (some ⟨vb, 0, none⟩) 1 1] w fun e w' => ∃ r, e = .returned r ∧ Row (fun b => base ≤ b) w' r (n + 1) (insf f i x) ∧ Keeps (fun b => (Value.slice (some ⟨g, 0, none⟩) n cap).ownBlock = some b) w w' := by
  obtain ⟨i0, hi0, hz0, hz1, hz2⟩ := infoK
  have hcell : ∀ j, j < n → w.cell? ⟨g, j, none⟩ = some (f j) := fun j hj => by
    rw [World.ownsRow.cellAt hown j (by omega), List.getElem?_map, List.getElem?_range hj]; rfl
  have hsz : (Tryz.prog.info? 100).map (·.size) = some 1 := by rw [hi0]; simp [hz1]
  obtain ⟨cs, hcs2⟩ : ∃ cs, cs = ((List.range n).map f).drop i := ⟨_, rfl⟩
  have hcl : cs.length = n - i := by rw [hcs2]; simp
  have hcsj : ∀ (j : Nat) (u : Value), cs[j]? = some u → i + j < n ∧ u = f (i + j) := fun j u hj => by
    rw [hcs2, List.getElem?_drop, List.getElem?_map] at hj
    by_cases hlt : i + j < n
    · rw [List.getElem?_range hlt] at hj
      exact ⟨hlt, by simpa using hj.symm⟩
    · rw [List.getElem?_eq_none (by simp; omega)] at hj
      cases hj
  have hc1 : ∀ u ∈ cs, u.oneCell' = true := fun u hu => by
    obtain ⟨j, hj, e⟩ := List.getElem_of_mem hu
    obtain ⟨h2, h3⟩ := hcsj j u (by rw [← e]; simp [hj])
    rw [h3]
    exact h1 _ h2
  obtain ⟨hs, hhs⟩ : ∃ hs, hs = (List.range i).map f := ⟨_, rfl⟩
  have hold : (Builtin.firstCells i0.size i (.slice (some ⟨g, 0, none⟩) i cap)).run Tryz.prog w.drew = .ok hs.toArray w.drew := by
    rw [hz1]
    exact run_firstCells_some w.drew 1 i ⟨g, 0, none⟩ i cap hs (by rw [hhs]; simp) (fun j u hj => by
      rw [hhs, List.getElem?_map] at hj
      rw [Addr.add_lit, Nat.zero_add]
      by_cases hlt : j < i
      · rw [List.getElem?_range hlt] at hj
        cases hj
        exact hcell j (by omega)
      · rw [List.getElem?_eq_none (by simp; omega)] at hj
        cases hj)
  obtain ⟨G, hG⟩ : ∃ G, G = grownCap w (n + 1) cap 100 := ⟨_, rfl⟩
  obtain ⟨ROW, hROW⟩ : ∃ ROW : Array Value, ROW = hs.toArray ++ Builtin.zeroCells ((.pointer none) : Value).cells (n + 1 - i) ++ Builtin.zeroCells ((.pointer none) : Value).cells (G - (n + 1)) := ⟨_, rfl⟩
  have hrz : ∀ ty, (Builtin.append_ #[169, 3] ty #[.slice (some ⟨g, 0, none⟩) i cap, .int .i64 ((n : Int) + 1 - (i : Int))]).run Tryz.prog w =
      .ok (.slice (some ⟨w.heap.size, 0, none⟩) (n + 1) G) (w.drew.alloc (.cells ROW 100)) := fun ty => by
    have hik : i + (n + 1 - i) = n + 1 := by omega
    have h := Lib.run_append_grow_zeros w 169 3 ty 100 i0 (.pointer none) .i64 .i64 Tryz.underlying169 Tryz.underlying3 hi0 hz0 (some ⟨g, 0, none⟩) i cap hs hold (n + 1 - i) (by omega) (by omega) (by omega) (by omega) (by rw [hz2]; omega) (by rw [hz2, hik]; exact growslice_fits hroom (by omega))
    rw [hik] at h
    rw [show (n : Int) + 1 - (i : Int) = ((n + 1 - i : Nat) : Int) by omega, hROW, hG]
    exact h
  have hGn : n + 1 ≤ G := by rw [hG]; exact grownCap_ge w _ _ _
  have hG63 : G ≤ 9223372036854775807 := by
    have := grownCap_le_maxLen w (n + 1) cap 100 (by unfold maxLen; omega)
    rw [← hG] at this
    unfold maxLen at this
    omega
  have hhl : hs.length = i := by rw [hhs]; simp
  have hRl : n + 1 ≤ ROW.size := by
    rw [hROW]
    simp [Builtin.zeroCells, Value.cells, hhl]
    omega
  obtain ⟨W1, hW1⟩ : ∃ W1, W1 = w.drew.alloc (.cells ROW 100) := ⟨_, rfl⟩
  rw [← hW1] at hrz
  have hN : ∀ j, j < n + 1 → (W1.cell? ⟨w.heap.size, j, none⟩).isSome = true := fun j hj => by
    rw [hW1, World.cell?_alloc_at (w := w.drew) ROW _ w.heap.size j rfl, Array.getElem?_eq_getElem (by omega)]; rfl
  have hN0 : ∀ j, j < i → W1.cell? ⟨w.heap.size, j, none⟩ = some (f j) := fun j hj => by
    rw [hW1, World.cell?_alloc_at (w := w.drew) ROW _ w.heap.size j rfl, hROW, Array.append_assoc, Array.getElem?_append_left (by simp [hhl]; omega), hhs]
    simp [hj]
  have hNf : ∀ j, W1.frozen? ⟨w.heap.size, j, none⟩ = false := fun j => by rw [hW1]; exact World.frozen?_alloc_at (w := w.drew) ROW _ w.heap.size j rfl
  have hOld : ∀ b j u, w.cell? ⟨b, j, none⟩ = some u → W1.cell? ⟨b, j, none⟩ = some u := fun b j u h => by
    obtain ⟨o, ho, _⟩ := cells_of_cell h
    rw [hW1, World.cell?_alloc_past (w := w.drew) _ b j (lt_heap ho)]; exact h
  have hgN : g ≠ w.heap.size := by
    obtain ⟨o, ho, _⟩ := cells_of_cell (hcell 0 (by omega))
    have := lt_heap ho
    simp at this
    omega
  have hcpA : ∀ (W : World), (∀ x, W.cell? x = W1.cell? x) → (∀ x, W.frozen? x = W1.frozen? x) → ∀ ty dc, (Builtin.copy_ #[169, 169] ty #[.slice (some ⟨w.heap.size, i, none⟩) (n + 1 - i) dc, .slice (some ⟨vb, 0, none⟩) 1 1]).run Tryz.prog W = .ok (goInt ([x] : List Value).length) (W.setCells w.heap.size i [x]) := fun W hWc hWf ty dc =>
    run_copy_cells W _ _ ty 100 w.heap.size i (n + 1 - i) dc ⟨vb, 0, none⟩ 1 1 [x] Tryz.underlying169 hsz (by simp only [List.length_cons, List.length_nil, Nat.min_def]; split <;> omega)
      (fun j u hj => by
        match j, hj with
        | 0, hj => cases hj; rw [Addr.add_lit, hWc]; exact hOld _ _ _ hxc
        | j + 1, hj => simp at hj)
      (fun j hj => by rw [hWc]; exact hN _ (by simp at hj; omega)) (fun j _ => by rw [hWf]; exact hNf _) (fun u hu => by simp at hu; subst hu; exact hx1)
  have hcpB : ∀ (W : World), (∀ y, W.cell? y = (W1.setCells w.heap.size i [x]).cell? y) → (∀ y, W.frozen? y = (W1.setCells w.heap.size i [x]).frozen? y) → ∀ ty dc sc, (Builtin.copy_ #[169, 169] ty #[.slice (some ⟨w.heap.size, i + 1, none⟩) (n - i) dc, .slice (some ⟨g, i, none⟩) (n - i) sc]).run Tryz.prog W = .ok (goInt cs.length) (W.setCells w.heap.size (i + 1) cs) := fun W hWc hWf ty dc sc =>
    run_copy_cells W _ _ ty 100 w.heap.size (i + 1) (n - i) dc ⟨g, i, none⟩ (n - i) sc cs Tryz.underlying169 hsz (by rw [hcl]; simp only [Nat.min_def]; split <;> omega)
      (fun j u hj => by
        obtain ⟨h2, h3⟩ := hcsj j u hj
        rw [Addr.add_lit, hWc, World.cell?_setCells_out _ _ _ _ _ (fun h _ => absurd h hgN), h3]
        exact hOld _ _ _ (hcell _ h2))
      (fun j hj => by rw [hWc]; exact some_setCells _ _ _ _ (fun t ht => hN _ (by simp at ht; omega)) _ (hN _ (by omega)))
      (fun j _ => by rw [hWf, World.frozen?_setCells]; exact hNf _) hc1
  have hfin : ∀ W, (∀ y, W.cell? y = ((W1.setCells w.heap.size i [x]).setCells w.heap.size (i + 1) cs).cell? y) → Row (fun b => base ≤ b) W (.slice (some ⟨w.heap.size, 0, none⟩) (n + 1) G) (n + 1) (insf f i x) := fun W hW => by
    refine ⟨_, _, rfl, hGn, hG63, fun j hj => ⟨w.heap.size, 0, rfl, hbase, ?_⟩⟩
    rw [Nat.zero_add, hW]
    rcases Nat.lt_trichotomy j i with h | h | h
    · rw [World.cell?_setCells_out _ _ _ _ _ (fun _ _ => .inl (show j < i + 1 by omega)), World.cell?_setCells_out _ _ _ _ _ (fun _ _ => .inl h), insf_lt h]
      exact hN0 j h
    · subst h
      rw [World.cell?_setCells_out _ _ _ _ _ (fun _ _ => .inl (show j < j + 1 by omega))]
      have := World.cell?_setCells_in w.heap.size [x] j W1 (fun t ht => hN _ (by simp at ht; omega)) 0 (by simp)
      rw [Nat.add_zero] at this
      rw [this, insf_eq]
      rfl
    · have := World.cell?_setCells_in w.heap.size cs (i + 1) (W1.setCells w.heap.size i [x]) (fun t ht => some_setCells _ _ _ _ (fun t ht => hN _ (by simp at ht; omega)) _ (hN _ (by omega))) (j - (i + 1)) (by omega)
      rw [show i + 1 + (j - (i + 1)) = j by omega] at this
      rw [this, insf_gt h]
      obtain ⟨_, h3⟩ := hcsj (j - (i + 1)) _ (List.getElem?_eq_getElem (by omega))
      rw [h3, show i + (j - (i + 1)) = j - 1 by omega]
  have FIN := hide hfin
  subst hW1
  have hE1 : ∀ x, ((w.alloc (.cells ROW 100)).drew).cell? x = (w.drew.alloc (.cells ROW 100)).cell? x := fun x => rfl
  have hE2 : ∀ x, ((w.alloc (.cells ROW 100)).drew).frozen? x = (w.drew.alloc (.cells ROW 100)).frozen? x := fun x => rfl
  have hF1 : ∀ y, (((w.alloc (.cells ROW 100)).drew.setCells w.heap.size i [x]).drew).cell? y = ((w.drew.alloc (.cells ROW 100)).setCells w.heap.size i [x]).cell? y := fun y => rfl
  have hF2 : ∀ y, (((w.alloc (.cells ROW 100)).drew.setCells w.heap.size i [x]).drew).frozen? y = ((w.drew.alloc (.cells ROW 100)).setCells w.heap.size i [x]).frozen? y := fun y => rfl
  have hz3 : (cap : Int) < (n : Int) + 1 := by omega
  have hz4 : ¬ ((i : Int) = (n : Int)) := by omega
  have mixed : Tryz.prog.follows .mixedOrders = true := by kernel_rfl
  have hin : i ≤ n := by omega
  have hw1 : IntKind.i64.wrap ((i : Int) + 1) = (i : Int) + 1 := by rw [IntKind.wrap_i64]; omega
  have hb1 : (0 : Int) ≤ (i : Int) + 1 := by omega
  have htn : ((i : Int) + 1).toNat = i + 1 := by omega
  have hGi : ¬ (G = i) := by omega
  have hGim : ¬ (G = i + 1) := by omega
  have hci : ¬ (cap = i) := by omega
  have hb3 : (i : Int) ≤ (n : Int) := by omega
  clear hfin hc1 hcsj hcl hcs2 hcell hown h1 hxc hold hROW hG hRl hhl hN hN0 hNf hOld hhs
  go_enter Tryz.func145, Tryz.ntmps145
  go_wp2_with (first
    | (at_builtin; refine Lib.wpList_append_run _ rfl _ _ _ _ rfl _ _ rfl rfl _ _ (hrz _) ?_)
    | (at_builtin; refine copy_step rfl _ _ 169 rfl _ _ rfl rfl (hcpA _ hE1 hE2 _ _) ?_))
  have hcc := hcpB _ hF1 hF2 3 (G - (i + 1)) (cap - i)
  go_region_law_o (refine copy_drawn rfl _ _ 169 rfl _ _ (by simp [Act.eval, Act.put]) (by simp [Act.eval, Act.put]) hcc ?_)
  go_wp2
  go_ret
  refine ⟨_, rfl, unhide FIN _ (fun y => by rw [setCells_drew]; rfl), ?_⟩
  exact ((((Keeps.refl _ w).alloc _).drew.cells (.inr (Nat.le_refl _)) _ _).drew).cells (.inr (Nat.le_refl _)) _ _

/-- Wherever. -/
theorem insK_any (base : Nat) (w : World) (v : Value) (n i vb : Nat) (f : Nat → Value) (x : Value) (hown : w.ownsRow base 100 1 v n ((List.range n).map f)) (hi : i ≤ n) (hn : n ≤ 1000) (h1 : ∀ j, j < n → (f j).oneCell' = true) (hx1 : x.oneCell' = true)
    (hvb : w.heap[vb]? = some (.cells #[x] 100 (0, 0))) (hne : v.ownBlock ≠ some vb) (hbase : base ≤ w.heap.size) :
    Calls Tryz.prog 145 #[v, .int .i64 i, .slice (some ⟨vb, 0, none⟩) 1 1] w fun e w' => ∃ r, e = .returned r ∧ Row (fun b => base ≤ b) w' r (n + 1) (insf f i x) ∧ Keeps (fun b => v.ownBlock = some b) w w' := by
  have hxc : w.cell? ⟨vb, 0, none⟩ = some x := by simp [World.cell?, hvb]
  rcases Nat.lt_or_ge i n with h | h
  · rcases hown.2 with ⟨rfl, h0⟩ | ⟨g, cap, cur, rfl, hb, hg, hnc, hm, hs, ht⟩
    · omega
    · rcases Nat.lt_or_ge cap (n + 1) with h2 | h2
      · exact insK_grow base w g n cap i vb f x hown h hnc h2 hn h1 hx1 hxc hbase
      · exact insK_room base w g n cap i vb f x hown h h2 h1 hx1 hvb (fun e => hne (by rw [e]; rfl))
  · obtain rfl : i = n := by omega
    exact insK_end base w v i vb f x hown hn hx1 hxc hbase
end Go.Proofs.YthcljhfankooaabGreat
