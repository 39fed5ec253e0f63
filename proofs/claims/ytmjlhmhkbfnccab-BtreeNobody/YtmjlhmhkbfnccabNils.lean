/- A set that nobody made. -/
import Derived.Test.YtmjlhmhkbfnccabGens
import Derived.Test.YtmjlhmhkbfnccabNews
namespace Go.Proofs.Ytmjlhmhkbfnccab
open Go.RowKit Go.Shelf

def NilS (w : World) (p : Option Addr) : Prop := p = none ∨ ∃ sb, p = some ⟨sb, 0, none⟩ ∧ w.cell? ⟨sb, 0, none⟩ = some (.pointer none)
theorem NilS.later {w w' : World} {p : Option Addr} (h : NilS w p) (hb : Below w.heap.size w w') : NilS w' p := by
  rcases h with h | ⟨sb, h1, h2⟩
  · exact .inl h
  · obtain ⟨_, hz, _⟩ := cells_of_cell h2
    exact .inr ⟨sb, h1, (hb.cell (p := ⟨sb, 0, none⟩) (lt_heap hz)).trans h2⟩
theorem NilS.step {w w' : World} {p : Option Addr} {base : Nat} (h : NilS w p) (hb : Step base w w') : NilS w' p := by
  rcases h with h | ⟨sb, h1, h2⟩
  · exact .inl h
  · exact .inr ⟨sb, h1, hb.cell h2⟩
theorem NilS.drew {w : World} {p : Option Addr} (h : NilS w p) : NilS w.drew p := h

theorem alloc_belowN (w : World) (o : Obj) : Below w.heap.size w (w.alloc o) := (Below.refl _ w).alloc (Nat.le_refl _) o

theorem made_nil (w : World) (p : Option Addr) (h : NilS w p) : Calls Try.prog 19 #[.pointer p] w fun e w' => e = .returned (.bool false) ∧ w' = w := by
  rcases h with rfl | ⟨sb, rfl, hc⟩
  · go_enter Try.func19, Try.ntmps19
    go_wp2_with fail
    go_ret
    exact ⟨rfl, rfl⟩
  · go_enter Try.func19, Try.ntmps19
    go_wp2_with fail
    go_ret
    exact ⟨rfl, rfl⟩

set_option maxRecDepth 100000 in
set_option maxHeartbeats 2000000 in
theorem now_nil (w : World) (p : Option Addr) (h : NilS w p) : Calls Try.prog 23 #[.pointer p] w fun e w' => e = .returned (.agg #[.slice none 0 0, .pointer none, .int .i64 0]) ∧ Below w.heap.size w w' := by
  have b1 : Below w.heap.size w (w.alloc (.cells #[.slice none 0 0, .pointer none, .int .i64 0] 52)) := (Below.refl _ w).alloc (Nat.le_refl _) _
  have hm := made_nil (w.alloc (.cells #[.slice none 0 0, .pointer none, .int .i64 0] 52)) p (h.later b1)
  clear h
  go_enter Try.func23, Try.ntmps23
  go_wp2_with (go_at_call 19; refine hm.mono ?_; clear hm; rintro e w' ⟨rfl, rfl⟩)
  refine bodyPost_ret (v := .agg #[.slice none 0 0, .pointer none, .int .i64 0]) (by simp [results, Try.f23, go_sem]) rfl ?_
  refine ⟨rfl, ?_⟩
  first
  | exact b1
  | simpa using b1
  | exact ((b1.setCell (p := ⟨w.heap.size, 0, none⟩) (Nat.le_refl _) _).setCell (p := ⟨w.heap.size, 1, none⟩) (Nat.le_refl _) _).setCell (p := ⟨w.heap.size, 2, none⟩) (Nat.le_refl _) _

theorem now_nilD (w : World) (p : Option Addr) (h : NilS w p) : Calls Try.prog 23 #[.pointer p] w.drew fun e w' => e = .returned (.agg #[.slice none 0 0, .pointer none, .int .i64 0]) ∧ Below w.heap.size w w' :=
  (now_nil w.drew p h.drew).mono fun _ _ ⟨h1, h2⟩ => ⟨h1, ((Below.refl _ w).drew).trans h2⟩

set_option maxRecDepth 100000 in
set_option maxHeartbeats 2000000 in
theorem insert_nil (w : World) (p xa : Option Addr) (xn xc : Nat) (h : NilS w p) : Calls Try.prog 5 #[.pointer p, .slice xa xn xc] w fun e w' => e = .returned (.tuple #[.bool false, .int .i64 5]) ∧ Below w.heap.size w w' := by
  have hm := made_nil w p h
  clear h
  go_enter Try.func5, Try.ntmps5
  go_wp2_with fail
  refine hm.mono ?_
  clear hm
  rintro e w' ⟨rfl, hw'⟩
  subst hw'
  go_wp2_with fail
  go_ret2
  exact ⟨rfl, Below.refl _ _⟩

set_option maxRecDepth 100000 in
set_option maxHeartbeats 4000000 in
theorem has_nil (w : World) (p : Option Addr) (x : List Int) (xv : Value) (h : NilS w p) (hx : Ints w.heap.size w xv x) : Calls Try.prog 8 #[.pointer p, xv] w fun e w' => e = .returned (.bool false) ∧ Below w.heap.size w w' := by
  obtain ⟨xa, xc, rfl, _⟩ := id hx
  have hnow := now_nil w p h
  have HH : Hid (∀ w1, Below w.heap.size w w1 → fitB [] x = true → Calls Try.prog 24 #[.pointer none, .slice none 0 0, .slice xa x.length xc] w1 fun e w' => e = .returned (.bool false) ∧ Below w1.heap.size w1 w') := fun w1 hb1 hf =>
    nhas_any (fun _ => True) _ _ [] x (by decide) (fitB_true.1 hf) 0 15 w1 none [] (by omega) (Ints.nil _ _) ((hx.below hb1 (Nat.le_refl _)).mono hb1.size) ⟨rfl, rfl⟩ (Rises.nil _)
  clear hx h
  go_enter Try.func8, Try.ntmps8
  go_wp2_with fail
  refine hnow.mono ?_
  clear hnow
  rintro e w1 ⟨rfl, hb1⟩
  have hB1 : Below w.heap.size w (w1.alloc (.cells #[.slice none 0 0, .pointer none, .int .i64 0] 52)) := hb1.alloc hb1.size _
  have HB1 := hide hB1
  have hfit : Calls Try.prog 20 #[.agg #[.slice none 0 0, .pointer none, .int .i64 0], .slice xa x.length xc] (w1.alloc (.cells #[.slice none 0 0, .pointer none, .int .i64 0] 52)) fun e w' => e = .returned (.bool (fitB [] x)) ∧ Below (w1.alloc (.cells #[.slice none 0 0, .pointer none, .int .i64 0] 52)).heap.size (w1.alloc (.cells #[.slice none 0 0, .pointer none, .int .i64 0] 52)) w' := hfits_any (w1.alloc (.cells #[.slice none 0 0, .pointer none, .int .i64 0] 52)) none xa [] x 0 xc none 0
  clear hB1 hb1
  go_wp2_with fail
  refine hfit.mono ?_
  clear hfit
  rintro e w2 ⟨rfl, hb2⟩
  have h3 := three_cells ((hb2.block w1.heap.size (by simp)).trans (World.alloc_heap_new w1 (.cells #[.slice none 0 0, .pointer none, .int .i64 0] 52)))
  obtain ⟨c0, c1, _⟩ := h3
  have hb02 := (unhide HB1).trans (hb2.mono (unhide HB1).size)
  have HB02 := hide hb02
  have HC := unhide HH w2 hb02
  clear hb02 hb2 HH
  cases hf : fitB [] x with
  | true =>
    have hc := HC hf
    clear HC hf
    go_wp2_with (go_at_call 24; refine hc.mono ?_; clear hc; rintro e w3 ⟨rfl, hb3⟩)
    go_ret
    exact ⟨rfl, (unhide HB02).trans (hb3.mono (unhide HB02).size)⟩
  | false =>
    clear HC hf
    go_wp2_with fail
    go_ret
    exact ⟨rfl, unhide HB02⟩

set_option maxRecDepth 100000 in
set_option maxHeartbeats 4000000 in
theorem len_nil (w : World) (p : Option Addr) (h : NilS w p) : Calls Try.prog 9 #[.pointer p] w fun e w' => e = .returned (.int .i64 0) ∧ Below w.heap.size w w' := by
  have hnow := now_nil w p h
  have hfld : ∀ w, (Instr.field 52 (.agg #[.slice none 0 0, .pointer none, .int .i64 0]) 2).run Try.prog w = .ok (.int .i64 0) w := fun w => by kernel_rfl
  clear h
  go_enter Try.func9, Try.ntmps9
  go_wp2_with fail
  refine hnow.mono ?_
  rintro e w1 ⟨rfl, hb1⟩
  go_wp2_with fail
  go_ret
  exact ⟨rfl, hb1⟩

set_option maxRecDepth 100000 in
set_option maxHeartbeats 4000000 in
theorem order_nil (w : World) (p : Option Addr) (h : NilS w p) : Calls Try.prog 10 #[.pointer p] w fun e w' => ∃ ra rc, e = .returned (.slice ra 0 rc) ∧ Below w.heap.size w w' := by
  have hnow := now_nil w p h
  have hfld : ∀ w, (Instr.field 52 (.agg #[.slice none 0 0, .pointer none, .int .i64 0]) 0).run Try.prog w = .ok (.slice none 0 0) w := fun w => by kernel_rfl
  clear h
  go_enter Try.func10, Try.ntmps10
  go_wp2_with fail
  refine hnow.mono ?_
  clear hnow
  rintro e w1 ⟨rfl, hb1⟩
  have hc := cloneL_any (fun _ => True) w1 (.slice none 0 0) [] (IntsS.nil _ _) (by simp)
  have HB1 := hide hb1
  clear hb1
  go_wp2_with fail
  refine hc.mono ?_
  clear hc
  rintro e w2 ⟨r, rfl, hown, hb2⟩
  have hr3 : ∃ a c, r = .slice a 0 c := (by obtain ⟨a, c, e, _⟩ := hown.intsS; exact ⟨a, c, e⟩)
  obtain ⟨ra, rc, rfl⟩ := hr3
  have HB2 := hide hb2
  clear hown hb2
  go_wp2_with fail
  go_ret
  exact ⟨ra, rc, rfl, (unhide HB1).trans ((unhide HB2).mono (unhide HB1).size)⟩

set_option maxRecDepth 100000 in
set_option maxHeartbeats 4000000 in
theorem pair_nil1 (w : World) (p q : Option Addr) (h : NilS w p) : Calls Try.prog 22 #[.pointer p, .pointer q] w fun e w' => e = .returned (.int .i64 5) ∧ w' = w := by
  have hm := made_nil w p h
  clear h
  go_enter Try.func22, Try.ntmps22
  go_wp2_with fail
  refine hm.mono ?_
  clear hm
  rintro e w' ⟨rfl, hw'⟩
  subst hw'
  go_wp2_with fail
  go_ret
  exact ⟨rfl, rfl⟩

set_option maxRecDepth 100000 in
set_option maxHeartbeats 4000000 in
theorem pair_nil2 (w : World) (sb hb : Nat) (q : Option Addr) (hs : w.cell? ⟨sb, 0, none⟩ = some (.pointer (some ⟨hb, 0, none⟩))) (h : NilS w q) : Calls Try.prog 22 #[.pointer (some ⟨sb, 0, none⟩), .pointer q] w fun e w' => e = .returned (.int .i64 5) ∧ w' = w := by
  have hm := made_any w sb hb hs
  have hm2 := made_nil w q h
  clear h
  go_enter Try.func22, Try.ntmps22
  go_wp2_with fail
  refine hm.mono ?_
  clear hm
  rintro e w' ⟨rfl, hw'⟩
  subst hw'
  go_wp2_with fail
  refine hm2.mono ?_
  clear hm2
  rintro e w'' ⟨rfl, hw''⟩
  subst hw''
  go_wp2_with fail
  go_ret
  exact ⟨rfl, rfl⟩

set_option maxRecDepth 100000 in
set_option maxHeartbeats 4000000 in
theorem swap_nil (w : World) (p q : Option Addr) (h : Calls Try.prog 22 #[.pointer p, .pointer q] w fun e w' => e = .returned (.int .i64 5) ∧ w' = w) : Calls Try.prog 11 #[.pointer p, .pointer q] w fun e w' => e = .returned (.int .i64 5) ∧ Below w.heap.size w w' := by
  go_enter Try.func11, Try.ntmps11
  go_wp2_with fail
  refine h.mono ?_
  clear h
  rintro e w' ⟨rfl, hw'⟩
  subst hw'
  go_wp2_with fail
  go_ret
  exact ⟨rfl, Below.refl _ _⟩

set_option maxRecDepth 100000 in
set_option maxHeartbeats 4000000 in
theorem merge_nil (w : World) (p q : Option Addr) (h : ∀ w', Below w.heap.size w w' → Calls Try.prog 22 #[.pointer p, .pointer q] w' fun e w'' => e = .returned (.int .i64 5) ∧ w'' = w') : Calls Try.prog 6 #[.pointer p, .pointer q] w fun e w' => e = .returned (.tuple #[.int .i64 0, .int .i64 5]) ∧ Below w.heap.size w w' := by
  have hb : Below w.heap.size w (((w.alloc (.cells #[.pointer p] 23)).alloc (.cells #[.int .i64 0] 3)).alloc (.cells #[.int .i64 0] 24)) := (((Below.refl _ w).alloc (Nat.le_refl _) _).alloc (by simp) _).alloc (by simp; omega) _
  have hp := h _ hb
  clear h
  go_enter Try.func6, Try.ntmps6
  go_wp2_with fail
  refine hp.mono ?_
  clear hp
  rintro e w' ⟨rfl, hw'⟩
  subst hw'
  go_wp2_with fail
  refine bodyPost_ret (v := .tuple #[.int .i64 0, .int .i64 5]) (by simp [results, Try.f6, go_sem]) rfl ?_
  refine ⟨rfl, ?_⟩
  exact (((Below.refl _ w).alloc (Nat.le_refl _) _).alloc (by simp) _).alloc (by simp; omega) _

theorem clear_nil (w : World) (p : Option Addr) (h : NilS w p) : Calls Try.prog 7 #[.pointer p] w fun e w' => (∃ v, e = .returned v) ∧ Below w.heap.size w w' := by
  have hm := made_nil w p h
  clear h
  go_enter Try.func7, Try.ntmps7
  go_wp2_with fail
  refine hm.mono ?_
  clear hm
  rintro e w' ⟨rfl, hw'⟩
  subst hw'
  go_wp2_with fail
  go_end0
  exact ⟨⟨_, rfl⟩, Below.refl _ _⟩

theorem likeI_nil (o : List Int) (k : Int) (x : List Int) : likeI o k x [] = [] := by
  unfold likeI fromI
  split <;> rfl
theorem fromI_nil (o x : List Int) : fromI o x [] = [] := by
  unfold fromI
  split <;> rfl
theorem tree_nil (S : Nat → Prop) (w : World) : Tree S w 0 15 none [] := ⟨rfl, rfl⟩
theorem all_nil (w : World) (p : Option Addr) (h : NilS w p) : Calls Try.prog 13 #[.pointer p] w fun e w' => ∃ lb, e = .returned (.func (.func 25) #[] lb) ∧ GoesH 25 lb [] (fun _ => False) w' ∧ Below w.heap.size w w' := by
  refine (all_any w p).mono ?_
  rintro e w' ⟨rfl, rfl⟩
  refine ⟨_, rfl, fun W hs => ?_, alloc_belowN _ _⟩
  have hN := (h.later (alloc_belowN w (.cells #[.pointer p] 23))).step hs
  exact (all1_gen (fun _ => False) W p none 0 0 none _ [] [] (by decide) (Rises.nil _) (IntsS.nil _ _) (tree_nil _ _) (now_nil W p hN) (fun _ h => (by cases h)) (hs.box (Boxed.new w _ _))).mono fun b hb => hb.1

set_option maxRecDepth 100000 in
set_option maxHeartbeats 4000000 in
theorem range_nil (w : World) (p : Option Addr) (x : List Int) (k : Int) (xv : Value) (h : NilS w p) (hx : Ints w.heap.size w xv x) (hn : x.length * 8 ≤ 140737488355328) :
    Calls Try.prog 14 #[.pointer p, .int .i64 k, xv] w fun e w' => ∃ lb, e = .returned (.func (.func 27) #[] lb) ∧ GoesH 27 lb [] (fun b => b < w'.heap.size) w' ∧ Below w.heap.size w w' := by
  obtain ⟨W, hW⟩ : ∃ W, W = (w.alloc (.cells #[.pointer p] 23)).alloc (.cells #[.int .i64 k] 3) := ⟨_, rfl⟩
  have hb2 : Below w.heap.size w W := by rw [hW]; exact ((Below.refl _ w).alloc (Nat.le_refl _) _).alloc (by simp) _
  have k1 : Boxed W w.heap.size 23 (.pointer p) := by rw [hW]; exact (Boxed.new w _ _).alloc _
  have k2 : Boxed W (w.heap.size + 1) 3 (.int .i64 k) := by
    rw [hW]
    have := Boxed.new (w.alloc (.cells #[.pointer p] 23)) 3 (.int .i64 k)
    rw [World.size_alloc] at this
    exact this
  have hcl := cloneL_any (fun b => b < w.heap.size) W xv x (IntsS.of_ints (hx.below hb2 (Nat.le_refl _)) (fun _ h => h)) hn
  obtain ⟨xa, xc, rfl, _⟩ := id hx
  have HH := hide (And.intro h (And.intro hb2 (And.intro k1 k2)))
  clear h hb2 k1 k2 hx
  go_enter Try.func14, Try.ntmps14
  go_wp2_with fail
  rw [← hW]
  refine hcl.mono ?_
  clear hcl
  rintro e w3 ⟨r, rfl, hown, hb3⟩
  obtain ⟨ra, rc, rfl, _⟩ := id hown.intsS
  have HO := hide (And.intro hown hb3)
  clear hown hb3 hW
  go_wp2_with fail
  go_ret
  obtain ⟨h, hb2, k1, k2⟩ := unhide HH
  obtain ⟨hown, hb3⟩ := unhide HO
  obtain ⟨w4, hw4⟩ : ∃ w4, w4 = w3.alloc (.cells #[.slice ra x.length rc] 22) := ⟨_, rfl⟩
  rw [← hw4]
  have hb4 : Below w3.heap.size w3 w4 := by rw [hw4]; exact alloc_belowN _ _
  have k3 : Boxed w4 w3.heap.size 22 (.slice ra x.length rc) := by rw [hw4]; exact Boxed.new w3 _ _
  have b24 : Below W.heap.size W w4 := hb3.trans (hb4.mono hb3.size)
  have b04 : Below w.heap.size w w4 := hb2.trans (b24.mono hb2.size)
  have k1' : Boxed w4 w.heap.size 23 (.pointer p) := (b24.block _ k1.lt).trans k1
  have k2' : Boxed w4 (w.heap.size + 1) 3 (.int .i64 k) := (b24.block _ k2.lt).trans k2
  refine ⟨_, rfl, fun W5 hs5 => ?_, b04⟩
  have hN := (h.later b04).step hs5
  have hx4 : IntsS (fun b => b < w4.heap.size) W5 (.slice ra x.length rc) x := ((hown.intsS.later hb4).mono (S' := fun b => b < w4.heap.size) (fun b h1 _ => h1)).stays hs5.stays
  have hg := range1_gen (fun b => b < w4.heap.size) W5 p none 0 0 none _ _ _ [] x k [] _ (by decide) (Rises.nil _) (IntsS.nil _ _) (tree_nil _ _) (now_nilD W5 p hN) (hs5.box k1') (hs5.box k2') (hs5.box k3) hx4
  rw [likeI_nil] at hg
  exact hg.mono fun b hb => hb.1

set_option maxRecDepth 100000 in
set_option maxHeartbeats 4000000 in
theorem from_nil (w : World) (p : Option Addr) (x : List Int) (xv : Value) (h : NilS w p) (hx : Ints w.heap.size w xv x) (hn : x.length * 8 ≤ 140737488355328) :
    Calls Try.prog 15 #[.pointer p, xv] w fun e w' => ∃ lb, e = .returned (.func (.func 28) #[] lb) ∧ GoesH 28 lb [] (fun b => b < w'.heap.size) w' ∧ Below w.heap.size w w' := by
  obtain ⟨W, hW⟩ : ∃ W, W = w.alloc (.cells #[.pointer p] 23) := ⟨_, rfl⟩
  have hb2 : Below w.heap.size w W := by rw [hW]; exact alloc_belowN _ _
  have k1 : Boxed W w.heap.size 23 (.pointer p) := by rw [hW]; exact Boxed.new w _ _
  have hcl := cloneL_any (fun b => b < w.heap.size) W xv x (IntsS.of_ints (hx.below hb2 (Nat.le_refl _)) (fun _ h => h)) hn
  obtain ⟨xa, xc, rfl, _⟩ := id hx
  have HH := hide (And.intro h (And.intro hb2 k1))
  clear h hb2 k1 hx
  go_enter Try.func15, Try.ntmps15
  go_wp2_with fail
  rw [← hW]
  refine hcl.mono ?_
  clear hcl
  rintro e w3 ⟨r, rfl, hown, hb3⟩
  obtain ⟨ra, rc, rfl, _⟩ := id hown.intsS
  have HO := hide (And.intro hown hb3)
  clear hown hb3 hW
  go_wp2_with fail
  go_ret
  obtain ⟨h, hb2, k1⟩ := unhide HH
  obtain ⟨hown, hb3⟩ := unhide HO
  obtain ⟨w4, hw4⟩ : ∃ w4, w4 = w3.alloc (.cells #[.slice ra x.length rc] 22) := ⟨_, rfl⟩
  rw [← hw4]
  have hb4 : Below w3.heap.size w3 w4 := by rw [hw4]; exact alloc_belowN _ _
  have k3 : Boxed w4 w3.heap.size 22 (.slice ra x.length rc) := by rw [hw4]; exact Boxed.new w3 _ _
  have b24 : Below W.heap.size W w4 := hb3.trans (hb4.mono hb3.size)
  have b04 : Below w.heap.size w w4 := hb2.trans (b24.mono hb2.size)
  have k1' : Boxed w4 w.heap.size 23 (.pointer p) := (b24.block _ k1.lt).trans k1
  refine ⟨_, rfl, fun W5 hs5 => ?_, b04⟩
  have hN := (h.later b04).step hs5
  have hx4 : IntsS (fun b => b < w4.heap.size) W5 (.slice ra x.length rc) x := ((hown.intsS.later hb4).mono (S' := fun b => b < w4.heap.size) (fun b h1 _ => h1)).stays hs5.stays
  have hg := from1_gen (fun b => b < w4.heap.size) W5 p none 0 0 none _ _ [] x [] _ (by decide) (Rises.nil _) (IntsS.nil _ _) (tree_nil _ _) (now_nilD W5 p hN) (hs5.box k1') (hs5.box k3) hx4
  rw [fromI_nil] at hg
  exact hg.mono fun b hb => hb.1
theorem list_nil (w : World) (g : Nat) (lb : Array Value) (S : Nat → Prop) (hg : GoesH g lb [] S w) (eg : ∀ args w, (callFunc g args).run Try.prog w = .ok (.enter g args) w) (hS : ∀ b, S b → b < w.heap.size) :
    Calls Try.prog 12 #[.func (.func g) #[] lb] w fun e w' => ∃ ra rc, e = .returned (.slice ra 0 rc) ∧ Below w.heap.size w w' :=
  (list_any w g lb [] S hg eg hS (by simp)).mono fun e w' ⟨rv, h1, ⟨f, ⟨a, c, h2, _⟩, _⟩, h3⟩ => ⟨a, c, by rw [h1, h2]; rfl, h3⟩
end Go.Proofs.Ytmjlhmhkbfnccab
