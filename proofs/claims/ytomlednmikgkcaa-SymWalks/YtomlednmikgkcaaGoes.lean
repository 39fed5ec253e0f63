/- The walk of SymWalks. -/
import Derived.Test.YtomlednmikgkcaaBeside
namespace Go.Proofs.Ytomlednmikgkcaa
open Go.RowKit Go.Shelf

attribute [local go_sem] Oper.semAt_some Fence.wide

/-- Between two rounds of the loop that puts. -/
def GRel (W : World) (bt : Nat) (l : List ByteArray) (q : Int) (M : Nat) (i : Value) (wr : World) : Prop :=
  ∃ k : Nat, k ≤ M ∧ i = .int .i64 (k : Int) ∧ Only wr (W.heap.size + 1 + 1) (W.heap.size + 1 + 1 + 1 + 1) (W.heap.size + 1 + 1 + 1) (W.heap.size + 1 + 1) (puts (l.take k)) ∧ Below W.heap.size W wr ∧
    Boxed wr W.heap.size 3 (.int .i64 q) ∧ Boxed wr (W.heap.size + 1) 4 (.bool false) ∧ Boxed wr bt 23 (.pointer (some ⟨W.heap.size + 1 + 1 + 1 + 1, 0, none⟩))

theorem start_boxes (W : World) (q : Int) : Boxed ((W.alloc (.cells #[.int .i64 q] 3)).alloc (.cells #[.bool false] 4)) W.heap.size 3 (.int .i64 q) ∧ Boxed ((W.alloc (.cells #[.int .i64 q] 3)).alloc (.cells #[.bool false] 4)) (W.heap.size + 1) 4 (.bool false) := by
  refine ⟨(Boxed.new W 3 _).alloc _, ?_⟩
  have := Boxed.new (W.alloc (.cells #[.int .i64 q] 3)) 4 (.bool false)
  rw [World.size_alloc] at this
  exact this
theorem box_later {W W' : World} {B : Nat} {t : TypeId} {v : Value} (h : Boxed W B t v) (hb : Below W.heap.size W W') : Boxed W' B t v := (hb.block B h.lt).trans h

/-- Between two rounds of the loop that goes over the table. -/
def GInv (W : World) (bt n0 : Nat) (q : Int) (zs : List ByteArray) (k : Nat) (W1 : World) : Prop :=
  ∃ a' cap' xs', Tab W1 (W.heap.size + 1 + 1) (W.heap.size + 1 + 1 + 1 + 1) (W.heap.size + 1 + 1 + 1) (W.heap.size + 1 + 1) a' cap' xs' ∧ zs <+: xs' ∧ xs'.length ≤ 500 + k ∧
    Boxed W1 W.heap.size 3 (.int .i64 q) ∧ Boxed W1 (W.heap.size + 1) 4 (.bool false) ∧ Boxed W1 bt 23 (.pointer (some ⟨W.heap.size + 1 + 1 + 1 + 1, 0, none⟩)) ∧
    Boxed W1 n0 3 (.int .i64 (zs.length : Int)) ∧ Boxed W1 (n0 + 1) 3 (.int .i64 (k : Int)) ∧ Below W.heap.size W W1
theorem boxed_grown {A B : World} {row : Option Nat} {b : Nat} {t : TypeId} {v : Value} (h : Boxed A b t v) (hg : A.grownBy B row) (hr : ∀ r, row = some r → ∃ o : Obj, A.heap[r]? = some o ∧ o.isCells = false) : Boxed B b t v :=
  boxed_own b t (fun _ : Unit => v) () A B row h hg hr
theorem ginv_own {β : Type} {f : β → Nat} {W : World} {bt n0 : Nat} {q : Int} {zs : List ByteArray} {B : Nat} (hm : W.heap.size + 1 + 1 < B) (hB : W.heap.size ≤ B) : OwnFrom B (fun (s : β) W1 => GInv W bt n0 q zs (f s) W1) := by
  intro s X Y row hs hg hr
  obtain ⟨a', cap', xs', h1, h2, h3, h4, h5, h6, h7, h8, h9⟩ := hs
  have hr2 : ∀ r, row = some r → ∃ o : Obj, X.heap[r]? = some o ∧ o.isCells = false := fun r e => (hr r e).2
  exact ⟨a', cap', xs', tab_grown h1 hm hg hr, h2, h3, boxed_grown h4 hg hr2, boxed_grown h5 hg hr2, boxed_grown h6 hg hr2, boxed_grown h7 hg hr2, boxed_grown h8 hg hr2, ownFrom_below (β := Unit) (Nat.le_refl _) hB () X Y row h9 hg hr⟩

set_option maxRecDepth 100000 in
set_option maxHeartbeats 4000000 in
theorem symWalks_walk (W : World) (v : Value) (l : List ByteArray) (hA : Arg W v 140737488355328 l) (q : Int) :
    Calls Try.prog 6 #[v, .int .i64 q] W fun e w' => e = .returned (.bool true) ∧ Below W.heap.size W w' := by
  obtain ⟨M, hM, hM1, hM2⟩ : ∃ M : Nat, min (l.length : Int) 500 = (M : Int) ∧ M ≤ l.length ∧ M ≤ 500 := ⟨min l.length 500, by omega, by omega, by omega⟩
  have hmx : Try.prog.follows .mixedOrders = true := by kernel_rfl
  rcases hA with ⟨rfl, rfl⟩ | ⟨ad, cap, rfl, hc1, hc2, hcell⟩
  · obtain rfl : M = 0 := by simpa using hM1
    clear hM hM1 hM2
    obtain ⟨Wa, hWa⟩ : ∃ Wa, (W.alloc (.cells #[.int .i64 q] 3)).alloc (.cells #[.bool false] 4) = Wa := ⟨_, rfl⟩
    have hsa : Wa.heap.size = W.heap.size + 1 + 1 := by rw [← hWa]; simp
    have hBa : Below W.heap.size W Wa := by rw [← hWa]; exact ((Below.refl _ W).alloc (Nat.le_refl _) _).alloc (by simp) _
    have hbx : Boxed Wa W.heap.size 3 (.int .i64 q) ∧ Boxed Wa (W.heap.size + 1) 4 (.bool false) := by rw [← hWa]; exact start_boxes W q
    have hnew := new_any Wa
    rw [hsa] at hnew
    refine (callsIn_wide (n := 6)).1 ?_
    refine callsIn_of_wp_marks Try.func6 rfl trivial ?_ rfl
    simp only [Try.ntmps6, List.size_toArray, List.length_cons, List.length_nil, Nat.reduceAdd, Nat.reduceSub, Array.replicate_succ, Array.replicate_zero, List.push_toArray, List.append_toArray, List.nil_append, List.cons_append]
    gi_wp2_with fail
    refine (callsIn_wide.2 hnew).mono ?_
    rintro e w0 ⟨rfl, h0, b0⟩
    clear hnew
    gi_wp2_with fail
    refine (callsIn_wide.2 (alive_any _)).mono ?_
    rintro e w1 ⟨rfl, b1⟩
    have hb5 := Boxed.new w0 23 (.pointer (some ⟨W.heap.size + 1 + 1 + 1 + 1, 0, none⟩))
    have hz0 : Below w0.heap.size w0 (w0.alloc (.cells #[.pointer (some ⟨W.heap.size + 1 + 1 + 1 + 1, 0, none⟩)] 23)) := (Below.refl _ w0).alloc (Nat.le_refl _) _
    have hB : Only w1 (W.heap.size + 1 + 1) (W.heap.size + 1 + 1 + 1 + 1) (W.heap.size + 1 + 1 + 1) (W.heap.size + 1 + 1) [] := (Only.later ⟨none, 0, h0⟩ hz0).later b1
    have y23 := box_later hb5 b1
    have hb0' : Below Wa.heap.size Wa w0 := by rw [hsa]; exact b0
    have y3 := box_later ((box_later hbx.1 hb0').alloc (.cells #[.pointer (some ⟨W.heap.size + 1 + 1 + 1 + 1, 0, none⟩)] 23)) b1
    have y4 := box_later ((box_later hbx.2 hb0').alloc (.cells #[.pointer (some ⟨W.heap.size + 1 + 1 + 1 + 1, 0, none⟩)] 23)) b1
    have bB : Below W.heap.size W w1 := by
      have s0 := b0.size
      have s1 := b1.size
      simp at s1
      exact ((hBa.trans (b0.mono (by omega))).trans (hz0.mono (by omega))).trans (b1.mono (by simp; omega))
    clear hWa hBa hbx b0 b1 h0 hb5 hz0 hb0'
    have d23 := y23.cell
    gi_wp2_with fail
    clear d23
    have x3 := y3
    have x4 := y4
    have x23 := y23
    have d23 := x23.cell
    have hB1 := hB
    have bB1 := bB
    clear y3 y4 y23 hB bB
    have hsz : ∀ x ∈ ([] : List ByteArray), x.size ≤ 140737488355328 := fun x hx => by cases hx
    have hlen : ([] : List ByteArray).length ≤ 500 := by simp
    refine wpIn_loop_rounds 1 ?_
    rw [roundsIn_succ]
    generalize ([] : List ByteArray) = zs at hB1 hsz hlen
    gi_wp2_with fail
    refine (callsIn_wide.2 (len_only hB1)).mono ?_
    rintro e w' ⟨rfl, rfl⟩
    have e23 := ((x23.alloc (.cells #[.int .i64 (zs.length : Int)] 3)).alloc (.cells #[.int .i64 0] 3)).cell
    gi_wp2_with fail
    refine (all_in _ _ _).mono ?_
    rintro e w2 ⟨rfl, rfl⟩
    gi_wp2_with fail
    clear e23 d23
    obtain ⟨a, cap3, hT⟩ := hB1
    have bB0 : Below W.heap.size W (((w'.alloc (.cells #[.int .i64 (zs.length : Int)] 3)).alloc (.cells #[.int .i64 0] 3)).alloc (.cells #[.pointer (some ⟨W.heap.size + 1 + 1 + 1 + 1, 0, none⟩)] 23)) := by
      have := bB1.size
      exact ((bB1.alloc (by omega) _).alloc (by simp; omega) _).alloc (by simp; omega) _
    have hT0 : Tab (((w'.alloc (.cells #[.int .i64 (zs.length : Int)] 3)).alloc (.cells #[.int .i64 0] 3)).alloc (.cells #[.pointer (some ⟨W.heap.size + 1 + 1 + 1 + 1, 0, none⟩)] 23)) _ _ _ _ a cap3 zs :=
      hT.later ((((Below.refl _ w').alloc (Nat.le_refl _) _).alloc (by simp) _).alloc (by simp; omega) _)
    have z3 := ((x3.alloc (.cells #[.int .i64 (zs.length : Int)] 3)).alloc (.cells #[.int .i64 0] 3)).alloc (.cells #[.pointer (some ⟨W.heap.size + 1 + 1 + 1 + 1, 0, none⟩)] 23)
    have z4 := ((x4.alloc (.cells #[.int .i64 (zs.length : Int)] 3)).alloc (.cells #[.int .i64 0] 3)).alloc (.cells #[.pointer (some ⟨W.heap.size + 1 + 1 + 1 + 1, 0, none⟩)] 23)
    have z23 := ((x23.alloc (.cells #[.int .i64 (zs.length : Int)] 3)).alloc (.cells #[.int .i64 0] 3)).alloc (.cells #[.pointer (some ⟨W.heap.size + 1 + 1 + 1 + 1, 0, none⟩)] 23)
    have zw := ((Boxed.new w' 3 (.int .i64 (zs.length : Int))).alloc (.cells #[.int .i64 0] 3)).alloc (.cells #[.pointer (some ⟨W.heap.size + 1 + 1 + 1 + 1, 0, none⟩)] 23)
    have zi := (Boxed.new (w'.alloc (.cells #[.int .i64 (zs.length : Int)] 3)) 3 (.int .i64 0)).alloc (.cells #[.pointer (some ⟨W.heap.size + 1 + 1 + 1 + 1, 0, none⟩)] 23)
    have zb := Boxed.new ((w'.alloc (.cells #[.int .i64 (zs.length : Int)] 3)).alloc (.cells #[.int .i64 0] 3)) 23 (.pointer (some ⟨W.heap.size + 1 + 1 + 1 + 1, 0, none⟩))
    have hs0 : (((w'.alloc (.cells #[.int .i64 (zs.length : Int)] 3)).alloc (.cells #[.int .i64 0] 3)).alloc (.cells #[.pointer (some ⟨W.heap.size + 1 + 1 + 1 + 1, 0, none⟩)] 23)).heap.size = w'.heap.size + 1 + 1 + 1 := by simp
    simp only [World.size_alloc] at zi zb
    obtain ⟨W0, hW0⟩ : ∃ W0, (((w'.alloc (.cells #[.int .i64 (zs.length : Int)] 3)).alloc (.cells #[.int .i64 0] 3)).alloc (.cells #[.pointer (some ⟨W.heap.size + 1 + 1 + 1 + 1, 0, none⟩)] 23)) = W0 := ⟨_, rfl⟩
    rw [hW0] at bB0 hT0 z3 z4 z23 zw zi zb hs0 ⊢
    have hsz1 := bB1.size
    have hmb := (hT.mine_lt (W.heap.size + 1 + 1) (.inr (.inl rfl))).2
    have h3lt := x3.lt
    have h4lt := x4.lt
    have h23lt := x23.lt
    clear hW0 hT x3 x4 x23 bB1
    refine wpIn_rangeFunc_ownG rfl (by omega) (gf := 24) (lb := #[.pointer (some ⟨w'.heap.size + 1 + 1, 0, none⟩)]) rfl trivial (enters_of Try.func24 (by kernel_rfl) rfl)
      (all_stops (N := 140737488355328) (6 - 1) (by omega) (w'.heap.size + 1 + 1) _ _ _ _ a cap3 zs (sizes_of hsz) W0 zb hT0) still_t (fun W1 l o o' _ h hc _ => still_b W1 l o o' h hc) (Below.refl _ _) (fun _ => rfl)
      (fun pre W1 => GInv W w0.heap.size w'.heap.size q zs pre.length W1)
      (fun c pre W1 => (c = .ret ∧ (Boxed W1 (W.heap.size + 1) 4 (.bool true) ∨ ¬ ∃ k, k ≤ zs.length ∧ pre = upto (item zs (sizes_of hsz)) k)) ∧ Below W.heap.size W W1)
      (ginv_own (by omega) (by omega))
      (fun c s X Y row hs hg hr => ⟨⟨hs.1.1, hs.1.2.elim (fun h => .inl (boxed_grown h hg (fun r e => (hr r e).2))) (fun h => .inr h)⟩, ownFrom_below (β := Unit) (Nat.le_refl _) (by omega) () X Y row hs.2 hg hr⟩)
      ⟨a, cap3, zs, hT0, List.prefix_refl _, by omega, z3, z4, z23, zw, zi, bB0⟩
      (fun x => { tmps := #[.slice none 0 0, .int .i64 q, undef, .pointer (some ⟨W.heap.size, 0, none⟩), .pointer (some ⟨W.heap.size + 1, 0, none⟩), .pointer (some ⟨w0.heap.size, 0, none⟩), undef, undef, .pointer (some ⟨w'.heap.size, 0, none⟩), .pointer (some ⟨w'.heap.size + 1, 0, none⟩), .int .i64 (x.1.1 : Int), .string x.1.2,
        .pointer (some ⟨W.heap.size + 1 + 1 + 1 + 1, 0, none⟩), .pointer (some ⟨W.heap.size + 1 + 1 + 1 + 1, 0, none⟩), .bool false, .bool false, .bool true, .bool false, .bool false, .slice none 0 0, .slice none 0 0, .int .i64 0, .int .i64 0, .slice none 0 0, .int .i64 0, .int .i64 0, .bool false, undef, undef, undef, undef, undef, undef, .pointer (some ⟨W.heap.size + 1 + 1 + 1 + 1, 0, none⟩), .int .i64 (zs.length : Int), .pointer (some ⟨W.heap.size + 1 + 1 + 1 + 1, 0, none⟩),
        .func (.func 24) #[] #[.pointer (some ⟨w'.heap.size + 1 + 1, 0, none⟩)], .int .i64 (x.1.1 : Int), .string x.1.2, undef, undef, undef, undef, undef, undef, undef, undef, undef, undef, undef, undef, undef, undef, undef, undef, undef, undef, undef, undef], defers := [] }) ?assign ?body ?done ?leaves
    case assign =>
      intro l x W1 K hK
      gi_wp2
      exact hK
    case body =>
      rintro l pre ⟨⟨m, t⟩, ht⟩ W1 ⟨a', cap', xs', hT1, hpf, hl1, c3, c4, c23, cw, ci, hB1⟩ hlt
      have d3 := c3.cell
      have d4 := c4.cell
      have f4 := c4.frozen
      have d23 := c23.cell
      have dw := cw.cell
      have di := ci.cell
      have fi := ci.frozen
      have hi : (pre.length : Int) < (zs.length : Int) := by omega
      have hd : 1 ≤ 6 - 1 - 1 := by omega
      have ht2 : t.size ≤ 140737488355328 := ht
      have hcat : ¬ 9223372036854775807 < t.size + 1 := by omega
      have hge : decide (zs.length ≤ pre.length) = false := by simp; omega
      by_cases e1 : m = pre.length
      · subst e1
        have hcall := put_any hT1 (t ++ ⟨#[39]⟩) (by rw [ByteArray.size_append]; have : (⟨#[39]⟩ : ByteArray).size = 1 := rfl; omega)
        generalize hpt : t ++ (⟨#[39]⟩ : ByteArray) = pt at hcall
        have HPT : Hid (t ++ (⟨#[39]⟩ : ByteArray) = pt) := hpt
        gi_wp2_with fail
        refine (CallsIn.inRound l (callsIn_wide.2 hcall)).mono ?_
        rintro e W2 ⟨rfl, a2, cap2, L⟩
        clear hcall
        have k3 := box_left hT1 L c3 (by unfold Plain; decide)
        have k4 := box_left hT1 L c4 (by unfold Plain; decide)
        have k23 := box_left hT1 L c23 (by unfold Plain; decide)
        have kw := box_left hT1 L cw (by unfold Plain; decide)
        have ki := box_left hT1 L ci (by unfold Plain; decide)
        have g3 := k3.cell
        have g4 := k4.cell
        have gf4 := k4.frozen
        have gi := ki.cell
        have gfi := ki.frozen
        have hB2 : Below W.heap.size W W2 := hB1.trans ((L.below hT1).mono (by omega))
        have hkf : KeepsFrom W0.heap.size W1 W2 := keeps_left hT1 L (by omega)
        by_cases e2 : (pre.length : Int) = q
        · gi_wp2_with fail
          exact ⟨hkf.trans ((KeepsOthers.setCell _ _ _).from _), ⟨rfl, .inl (k4.set (.bool true))⟩, hB2.setCell (p := ⟨W.heap.size + 1, 0, none⟩) (by show W.heap.size ≤ W.heap.size + 1; omega) _⟩
        · gi_wp2_with fail
          refine ⟨hkf.trans ((KeepsOthers.setCell _ _ _).from _), still_t (fun r => L.old a zs r (fun _ => hpf)) (still_set ki (fun s e => by cases e) _), a2, cap2, put xs' pt, tab_set L.tab ki (by unfold Plain; decide) _, hpf.trans (put_prefix _ _), ?_, k3.other (by omega) _, k4.other (by omega) _, k23.other (by omega) _, kw.other (by omega) _, ?_,
            hB2.setCell (p := ⟨w'.heap.size + 1, 0, none⟩) (by show W.heap.size ≤ w'.heap.size + 1; omega) _⟩
          · have := put_length_le xs' pt
            simp
            omega
          · simpa using ki.set (.int .i64 ((pre.length : Int) + 1))
      · have e3 : ((m : Int) != (pre.length : Int)) = true := by simp; omega
        gi_wp2_with fail
        exact ⟨(KeepsOthers.setCell _ _ _).from _, ⟨rfl, .inr (bad_item hlt (.inl e1))⟩, hB1.setCell (p := ⟨W.heap.size + 1, 0, none⟩) (by show W.heap.size ≤ W.heap.size + 1; omega) _⟩
    case done =>
      rintro D ys W1 hD rfl ⟨a', cap', xs', hT1, hpf, hl1, c3, c4, c23, cw, ci, hB1⟩ hK
      rw [upto_length] at ci
      have dw := cw.cell
      have di := ci.cell
      have d4 := c4.cell
      have f4 := c4.frozen
      gi_wp2
      have hK2 : (W1.setCell ⟨W.heap.size + 1, 0, none⟩ (.bool true)).heap[D]? = some (.deferred (some [])) := (KeepsOthers.setCell W1 ⟨W.heap.size + 1, 0, none⟩ (.bool true)).same D _ hK rfl
      refine ⟨by simp, .inl ⟨_, _, rfl, run_takeDeferred hK2, ?_⟩⟩
      have hc4 : (W1.setCell ⟨W.heap.size + 1, 0, none⟩ (.bool true)).cell? ⟨W.heap.size + 1, 0, none⟩ = some (.bool true) := (c4.set (.bool true)).cell
      have hc5 := cell_kept hc4 (grownBy_putObj' _ D (.deferred none)) (fun r e => by cases e; exact ⟨_, hK2, rfl⟩)
      refine ⟨.bool true, ?_, rfl, (hB1.setCell (p := ⟨W.heap.size + 1, 0, none⟩) (by show W.heap.size ≤ W.heap.size + 1; omega) (.bool true)).trans (belowK_b (w := W) (Nat.le_refl _) _ D _ _ (by omega) hK2 rfl rfl)⟩
      simp [results, Try.f6, go_sem, hc5]
    case leaves =>
      rintro D c pre W1 hD hSp ⟨⟨rfl, h⟩, hB1⟩ hK
      have c4 : Boxed W1 (W.heap.size + 1) 4 (.bool true) := h.resolve_right (fun hn => hn hSp)
      gi_wp2
      refine ⟨by simp, .inl ⟨_, _, rfl, run_takeDeferred hK, ?_⟩⟩
      have hc5 := cell_kept c4.cell (grownBy_putObj' _ D (.deferred none)) (fun r e => by cases e; exact ⟨_, hK, rfl⟩)
      refine ⟨.bool true, ?_, rfl, hB1.trans (belowK_b (w := W) (Nat.le_refl _) _ D _ _ (by omega) hK rfl rfl)⟩
      simp [results, Try.f6, go_sem, hc5]
  · obtain ⟨Wa, hWa⟩ : ∃ Wa, (W.alloc (.cells #[.int .i64 q] 3)).alloc (.cells #[.bool false] 4) = Wa := ⟨_, rfl⟩
    have hsa : Wa.heap.size = W.heap.size + 1 + 1 := by rw [← hWa]; simp
    have hBa : Below W.heap.size W Wa := by rw [← hWa]; exact ((Below.refl _ W).alloc (Nat.le_refl _) _).alloc (by simp) _
    have hbx : Boxed Wa W.heap.size 3 (.int .i64 q) ∧ Boxed Wa (W.heap.size + 1) 4 (.bool false) := by rw [← hWa]; exact start_boxes W q
    have hnew := new_any Wa
    rw [hsa] at hnew
    refine (callsIn_wide (n := 6)).1 ?_
    refine callsIn_of_wp_marks Try.func6 rfl trivial ?_ rfl
    simp only [Try.ntmps6, List.size_toArray, List.length_cons, List.length_nil, Nat.reduceAdd, Nat.reduceSub, Array.replicate_succ, Array.replicate_zero, List.push_toArray, List.append_toArray, List.nil_append, List.cons_append]
    gi_wp2_with fail
    refine (callsIn_wide.2 hnew).mono ?_
    rintro e w0 ⟨rfl, h0, b0⟩
    clear hnew
    gi_wp2_with fail
    refine (callsIn_wide.2 (alive_any _)).mono ?_
    rintro e w1 ⟨rfl, b1⟩
    have hb5 := Boxed.new w0 23 (.pointer (some ⟨W.heap.size + 1 + 1 + 1 + 1, 0, none⟩))
    have hz0 : Below w0.heap.size w0 (w0.alloc (.cells #[.pointer (some ⟨W.heap.size + 1 + 1 + 1 + 1, 0, none⟩)] 23)) := (Below.refl _ w0).alloc (Nat.le_refl _) _
    have hB : Only w1 (W.heap.size + 1 + 1) (W.heap.size + 1 + 1 + 1 + 1) (W.heap.size + 1 + 1 + 1) (W.heap.size + 1 + 1) [] := (Only.later ⟨none, 0, h0⟩ hz0).later b1
    have y23 := box_later hb5 b1
    have hb0' : Below Wa.heap.size Wa w0 := by rw [hsa]; exact b0
    have y3 := box_later ((box_later hbx.1 hb0').alloc (.cells #[.pointer (some ⟨W.heap.size + 1 + 1 + 1 + 1, 0, none⟩)] 23)) b1
    have y4 := box_later ((box_later hbx.2 hb0').alloc (.cells #[.pointer (some ⟨W.heap.size + 1 + 1 + 1 + 1, 0, none⟩)] 23)) b1
    have bB : Below W.heap.size W w1 := by
      have s0 := b0.size
      have s1 := b1.size
      simp at s1
      exact ((hBa.trans (b0.mono (by omega))).trans (hz0.mono (by omega))).trans (b1.mono (by simp; omega))
    clear hWa hBa hbx b0 b1 h0 hb5 hz0 hb0'
    have d23 := y23.cell
    gi_wp2_with fail
    clear d23
    gi_loopw [25] (fun i wr => GRel W w0.heap.size l q M i wr) (fun i _ => M - (intOf i).toNat)
    case atStart => exact ⟨0, Nat.zero_le _, rfl, by simpa [puts] using hB, bB, y3, y4, y23⟩
    case round =>
      clear hB bB y3 y4 y23
      obtain ⟨k, hk, rfl, hB1, bB1, x3, x4, x23⟩ := hrel
      have d23 := x23.cell
      by_cases hlt : k < M
      · obtain ⟨b, off, rfl, hc, hs⟩ := arg_cell hcell bB1 (show k < l.length by omega)
        have hp := puts_take (l := l) (show k < l.length by omega)
        have hi : (k : Int) < (M : Int) := by omega
        have HP : Hid _ := hp
        clear hp
        generalize l[k] = s at hc hs HP
        gi_wp2_with fail
        refine (callsIn_wide.2 (put_boxes hB1 s (by omega))).mono ?_
        rintro e w2 ⟨rfl, hB2, b2, hbx2⟩
        have z3 := hbx2 _ _ _ x3 (by unfold Plain; decide)
        have z4 := hbx2 _ _ _ x4 (by unfold Plain; decide)
        have z23 := hbx2 _ _ _ x23 (by unfold Plain; decide)
        clear hbx2
        gi_wp2_with fail
        go_roundw
        case rel => exact ⟨k + 1, by omega, by go_num, by rw [HP.out]; exact hB2, bB1.trans (b2.mono (by omega)), z3, z4, z23⟩
        case measure => simp [intOf]; omega
      · obtain rfl : k = M := by omega
        have hle : ¬ (k : Int) < (k : Int) := by omega
        have hsz : ∀ x ∈ puts (l.take k), x.size ≤ 140737488355328 := fun x hx => by
          obtain ⟨j, hj⟩ := List.getElem?_of_mem (List.mem_of_mem_take (puts_mem hx))
          exact (hcell j x hj).2.2
        have hlen : (puts (l.take k)).length ≤ 500 := by
          have := puts_length (l.take k)
          simp at this
          omega
        generalize puts (l.take k) = zs at hB1 hsz hlen
        gi_wp2_with fail
        refine (callsIn_wide.2 (len_only hB1)).mono ?_
        rintro e w' ⟨rfl, rfl⟩
        have e23 := ((x23.alloc (.cells #[.int .i64 (zs.length : Int)] 3)).alloc (.cells #[.int .i64 0] 3)).cell
        gi_wp2_with fail
        refine (all_in _ _ _).mono ?_
        rintro e w2 ⟨rfl, rfl⟩
        gi_wp2_with fail
        clear e23 d23
        obtain ⟨a, cap3, hT⟩ := hB1
        have bB0 : Below W.heap.size W (((w'.alloc (.cells #[.int .i64 (zs.length : Int)] 3)).alloc (.cells #[.int .i64 0] 3)).alloc (.cells #[.pointer (some ⟨W.heap.size + 1 + 1 + 1 + 1, 0, none⟩)] 23)) := by
          have := bB1.size
          exact ((bB1.alloc (by omega) _).alloc (by simp; omega) _).alloc (by simp; omega) _
        have hT0 : Tab (((w'.alloc (.cells #[.int .i64 (zs.length : Int)] 3)).alloc (.cells #[.int .i64 0] 3)).alloc (.cells #[.pointer (some ⟨W.heap.size + 1 + 1 + 1 + 1, 0, none⟩)] 23)) _ _ _ _ a cap3 zs :=
          hT.later ((((Below.refl _ w').alloc (Nat.le_refl _) _).alloc (by simp) _).alloc (by simp; omega) _)
        have z3 := ((x3.alloc (.cells #[.int .i64 (zs.length : Int)] 3)).alloc (.cells #[.int .i64 0] 3)).alloc (.cells #[.pointer (some ⟨W.heap.size + 1 + 1 + 1 + 1, 0, none⟩)] 23)
        have z4 := ((x4.alloc (.cells #[.int .i64 (zs.length : Int)] 3)).alloc (.cells #[.int .i64 0] 3)).alloc (.cells #[.pointer (some ⟨W.heap.size + 1 + 1 + 1 + 1, 0, none⟩)] 23)
        have z23 := ((x23.alloc (.cells #[.int .i64 (zs.length : Int)] 3)).alloc (.cells #[.int .i64 0] 3)).alloc (.cells #[.pointer (some ⟨W.heap.size + 1 + 1 + 1 + 1, 0, none⟩)] 23)
        have zw := ((Boxed.new w' 3 (.int .i64 (zs.length : Int))).alloc (.cells #[.int .i64 0] 3)).alloc (.cells #[.pointer (some ⟨W.heap.size + 1 + 1 + 1 + 1, 0, none⟩)] 23)
        have zi := (Boxed.new (w'.alloc (.cells #[.int .i64 (zs.length : Int)] 3)) 3 (.int .i64 0)).alloc (.cells #[.pointer (some ⟨W.heap.size + 1 + 1 + 1 + 1, 0, none⟩)] 23)
        have zb := Boxed.new ((w'.alloc (.cells #[.int .i64 (zs.length : Int)] 3)).alloc (.cells #[.int .i64 0] 3)) 23 (.pointer (some ⟨W.heap.size + 1 + 1 + 1 + 1, 0, none⟩))
        have hs0 : (((w'.alloc (.cells #[.int .i64 (zs.length : Int)] 3)).alloc (.cells #[.int .i64 0] 3)).alloc (.cells #[.pointer (some ⟨W.heap.size + 1 + 1 + 1 + 1, 0, none⟩)] 23)).heap.size = w'.heap.size + 1 + 1 + 1 := by simp
        simp only [World.size_alloc] at zi zb
        obtain ⟨W0, hW0⟩ : ∃ W0, (((w'.alloc (.cells #[.int .i64 (zs.length : Int)] 3)).alloc (.cells #[.int .i64 0] 3)).alloc (.cells #[.pointer (some ⟨W.heap.size + 1 + 1 + 1 + 1, 0, none⟩)] 23)) = W0 := ⟨_, rfl⟩
        rw [hW0] at bB0 hT0 z3 z4 z23 zw zi zb hs0 ⊢
        have hsz1 := bB1.size
        have hmb := (hT.mine_lt (W.heap.size + 1 + 1) (.inr (.inl rfl))).2
        have h3lt := x3.lt
        have h4lt := x4.lt
        have h23lt := x23.lt
        clear hW0 hT x3 x4 x23 bB1
        refine wpIn_rangeFunc_ownG rfl (by omega) (gf := 24) (lb := #[.pointer (some ⟨w'.heap.size + 1 + 1, 0, none⟩)]) rfl trivial (enters_of Try.func24 (by kernel_rfl) rfl)
          (all_stops (N := 140737488355328) (6 - 1) (by omega) (w'.heap.size + 1 + 1) _ _ _ _ a cap3 zs (sizes_of hsz) W0 zb hT0) still_t (fun W1 l o o' _ h hc _ => still_b W1 l o o' h hc) (Below.refl _ _) (fun _ => rfl)
          (fun pre W1 => GInv W w0.heap.size w'.heap.size q zs pre.length W1)
          (fun c pre W1 => (c = .ret ∧ (Boxed W1 (W.heap.size + 1) 4 (.bool true) ∨ ¬ ∃ k, k ≤ zs.length ∧ pre = upto (item zs (sizes_of hsz)) k)) ∧ Below W.heap.size W W1)
          (ginv_own (by omega) (by omega))
          (fun c s X Y row hs hg hr => ⟨⟨hs.1.1, hs.1.2.elim (fun h => .inl (boxed_grown h hg (fun r e => (hr r e).2))) (fun h => .inr h)⟩, ownFrom_below (β := Unit) (Nat.le_refl _) (by omega) () X Y row hs.2 hg hr⟩)
          ⟨a, cap3, zs, hT0, List.prefix_refl _, by omega, z3, z4, z23, zw, zi, bB0⟩
          (fun x => { tmps := #[.slice (some ad) l.length cap, .int .i64 q, undef, .pointer (some ⟨W.heap.size, 0, none⟩), .pointer (some ⟨W.heap.size + 1, 0, none⟩), .pointer (some ⟨w0.heap.size, 0, none⟩), undef, u7, .pointer (some ⟨w'.heap.size, 0, none⟩), .pointer (some ⟨w'.heap.size + 1, 0, none⟩), .int .i64 (x.1.1 : Int), .string x.1.2,
            .pointer (some ⟨W.heap.size + 1 + 1 + 1 + 1, 0, none⟩), .pointer (some ⟨W.heap.size + 1 + 1 + 1 + 1, 0, none⟩), .bool false, .bool false, .bool true, .bool false, .bool false, .slice (some ad) l.length cap, .slice (some ad) l.length cap, .int .i64 (l.length : Int), .int .i64 (k : Int), .slice (some ad) k cap, .int .i64 (k : Int), .int .i64 (k : Int), .bool false, u27, u28, u29, u30, u31, u32, .pointer (some ⟨W.heap.size + 1 + 1 + 1 + 1, 0, none⟩), .int .i64 (zs.length : Int), .pointer (some ⟨W.heap.size + 1 + 1 + 1 + 1, 0, none⟩),
            .func (.func 24) #[] #[.pointer (some ⟨w'.heap.size + 1 + 1, 0, none⟩)], .int .i64 (x.1.1 : Int), .string x.1.2, undef, undef, undef, undef, undef, undef, undef, undef, undef, undef, undef, undef, undef, undef, undef, undef, undef, undef, undef, undef], defers := [] }) ?assign ?body ?done ?leaves
        case assign =>
          intro l x W1 K hK
          gi_wp2
          exact hK
        case body =>
          rintro l pre ⟨⟨m, t⟩, ht⟩ W1 ⟨a', cap', xs', hT1, hpf, hl1, c3, c4, c23, cw, ci, hB1⟩ hlt
          have d3 := c3.cell
          have d4 := c4.cell
          have f4 := c4.frozen
          have d23 := c23.cell
          have dw := cw.cell
          have di := ci.cell
          have fi := ci.frozen
          have hi : (pre.length : Int) < (zs.length : Int) := by omega
          have hd : 1 ≤ 6 - 1 - 1 := by omega
          have ht2 : t.size ≤ 140737488355328 := ht
          have hcat : ¬ 9223372036854775807 < t.size + 1 := by omega
          have hge : decide (zs.length ≤ pre.length) = false := by simp; omega
          by_cases e1 : m = pre.length
          · subst e1
            have hcall := put_any hT1 (t ++ ⟨#[39]⟩) (by rw [ByteArray.size_append]; have : (⟨#[39]⟩ : ByteArray).size = 1 := rfl; omega)
            generalize hpt : t ++ (⟨#[39]⟩ : ByteArray) = pt at hcall
            have HPT : Hid (t ++ (⟨#[39]⟩ : ByteArray) = pt) := hpt
            gi_wp2_with fail
            refine (CallsIn.inRound l (callsIn_wide.2 hcall)).mono ?_
            rintro e W2 ⟨rfl, a2, cap2, L⟩
            clear hcall
            have k3 := box_left hT1 L c3 (by unfold Plain; decide)
            have k4 := box_left hT1 L c4 (by unfold Plain; decide)
            have k23 := box_left hT1 L c23 (by unfold Plain; decide)
            have kw := box_left hT1 L cw (by unfold Plain; decide)
            have ki := box_left hT1 L ci (by unfold Plain; decide)
            have g3 := k3.cell
            have g4 := k4.cell
            have gf4 := k4.frozen
            have gi := ki.cell
            have gfi := ki.frozen
            have hB2 : Below W.heap.size W W2 := hB1.trans ((L.below hT1).mono (by omega))
            have hkf : KeepsFrom W0.heap.size W1 W2 := keeps_left hT1 L (by omega)
            by_cases e2 : (pre.length : Int) = q
            · gi_wp2_with fail
              exact ⟨hkf.trans ((KeepsOthers.setCell _ _ _).from _), ⟨rfl, .inl (k4.set (.bool true))⟩, hB2.setCell (p := ⟨W.heap.size + 1, 0, none⟩) (by show W.heap.size ≤ W.heap.size + 1; omega) _⟩
            · gi_wp2_with fail
              refine ⟨hkf.trans ((KeepsOthers.setCell _ _ _).from _), still_t (fun r => L.old a zs r (fun _ => hpf)) (still_set ki (fun s e => by cases e) _), a2, cap2, put xs' pt, tab_set L.tab ki (by unfold Plain; decide) _, hpf.trans (put_prefix _ _), ?_, k3.other (by omega) _, k4.other (by omega) _, k23.other (by omega) _, kw.other (by omega) _, ?_,
                hB2.setCell (p := ⟨w'.heap.size + 1, 0, none⟩) (by show W.heap.size ≤ w'.heap.size + 1; omega) _⟩
              · have := put_length_le xs' pt
                simp
                omega
              · simpa using ki.set (.int .i64 ((pre.length : Int) + 1))
          · have e3 : ((m : Int) != (pre.length : Int)) = true := by simp; omega
            gi_wp2_with fail
            exact ⟨(KeepsOthers.setCell _ _ _).from _, ⟨rfl, .inr (bad_item hlt (.inl e1))⟩, hB1.setCell (p := ⟨W.heap.size + 1, 0, none⟩) (by show W.heap.size ≤ W.heap.size + 1; omega) _⟩
        case done =>
          rintro D ys W1 hD rfl ⟨a', cap', xs', hT1, hpf, hl1, c3, c4, c23, cw, ci, hB1⟩ hK
          rw [upto_length] at ci
          have dw := cw.cell
          have di := ci.cell
          have d4 := c4.cell
          have f4 := c4.frozen
          gi_wp2
          have hK2 : (W1.setCell ⟨W.heap.size + 1, 0, none⟩ (.bool true)).heap[D]? = some (.deferred (some [])) := (KeepsOthers.setCell W1 ⟨W.heap.size + 1, 0, none⟩ (.bool true)).same D _ hK rfl
          refine ⟨by simp, .inl ⟨_, _, rfl, run_takeDeferred hK2, ?_⟩⟩
          have hc4 : (W1.setCell ⟨W.heap.size + 1, 0, none⟩ (.bool true)).cell? ⟨W.heap.size + 1, 0, none⟩ = some (.bool true) := (c4.set (.bool true)).cell
          have hc5 := cell_kept hc4 (grownBy_putObj' _ D (.deferred none)) (fun r e => by cases e; exact ⟨_, hK2, rfl⟩)
          refine ⟨.bool true, ?_, rfl, (hB1.setCell (p := ⟨W.heap.size + 1, 0, none⟩) (by show W.heap.size ≤ W.heap.size + 1; omega) (.bool true)).trans (belowK_b (w := W) (Nat.le_refl _) _ D _ _ (by omega) hK2 rfl rfl)⟩
          simp [results, Try.f6, go_sem, hc5]
        case leaves =>
          rintro D c pre W1 hD hSp ⟨⟨rfl, h⟩, hB1⟩ hK
          have c4 : Boxed W1 (W.heap.size + 1) 4 (.bool true) := h.resolve_right (fun hn => hn hSp)
          gi_wp2
          refine ⟨by simp, .inl ⟨_, _, rfl, run_takeDeferred hK, ?_⟩⟩
          have hc5 := cell_kept c4.cell (grownBy_putObj' _ D (.deferred none)) (fun r e => by cases e; exact ⟨_, hK, rfl⟩)
          refine ⟨.bool true, ?_, rfl, hB1.trans (belowK_b (w := W) (Nat.le_refl _) _ D _ _ (by omega) hK rfl rfl)⟩
          simp [results, Try.f6, go_sem, hc5]
end Go.Proofs.Ytomlednmikgkcaa
