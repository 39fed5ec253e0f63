/- The walk of SymKeeps. -/
import Derived.Test.YtomlednmikgkcaaBoth
import Derived.BigQuiet
namespace Go.Proofs.Ytomlednmikgkcaa
open Go.RowKit Go.Maps

/-- The numbers that the puts answered, one behind the other. -/
def meets (l : List ByteArray) : Nat → List Int
  | 0 => []
  | k + 1 => meets l k ++ [(ansN (puts (l.take k)) (l[k]?.getD ⟨#[]⟩) : Int)]
theorem meets_length (l : List ByteArray) : ∀ k, (meets l k).length = k
  | 0 => rfl
  | k + 1 => by simp [meets, meets_length l k]
theorem meets_at (l : List ByteArray) : ∀ (k j : Nat), j < k → (meets l k)[j]? = some (ansN (puts (l.take j)) (l[j]?.getD ⟨#[]⟩) : Int)
  | 0, _, h => by omega
  | k + 1, j, h => by
    unfold meets
    by_cases e : j < k
    · rw [List.getElem?_append_left (by rw [meets_length]; exact e)]
      exact meets_at l k j e
    · obtain rfl : j = k := by omega
      rw [List.getElem?_append_right (by rw [meets_length]; omega), meets_length]
      simp
/-- What was put once keeps its number, whatever comes behind it. -/
theorem puts_keeps (l : List ByteArray) (j : Nat) (hj : j < l.length) (hl : j < 16384) : ∀ k, j < k → k ≤ l.length → there (puts (l.take k)) l[j] = true ∧ num (puts (l.take k)) l[j] = ansN (puts (l.take j)) l[j] := by
  intro k
  induction k with
  | zero => intro h; omega
  | succ k ih =>
    intro h h2
    rw [puts_take (show k < l.length by omega)]
    by_cases e : j < k
    · obtain ⟨i1, i2⟩ := ih e (by omega)
      obtain ⟨k1, k2⟩ := put_keeps (s := l[k]) i1
      exact ⟨k1, k2.trans i2⟩
    · obtain rfl : j = k := by omega
      have hlen := puts_length (l.take j)
      have h3 := put_room (xs := puts (l.take j)) (s := l[j]) (by simp at hlen; omega)
      exact ⟨h3.2.2.1, h3.2.2.2⟩

/-- A slice of numbers that the call itself makes. -/
abbrev Nums (W : World) (base : Nat) (v : Value) (zs : List Int) : Prop := W.ownsRow base 3 1 v zs.length (zs.map (Value.int .i64))

section
variable {W W' : World} {base tb hb mb : Nat} {xs : List ByteArray} {v : Value} {zs : List Int}
theorem nums_obj (h : Nums W base v zs) : ∀ k, v.ownBlock = some k → ∃ cur, W.heap[k]? = some (.cells cur 3 (0, 0)) := fun k e => by
  rcases h.2 with ⟨rfl, _⟩ | ⟨g, c, cur, rfl, _, hg, _⟩
  · simp [Value.ownBlock] at e
  · have : g = k := by simpa [Value.ownBlock] using e
    subst this
    exact ⟨cur, hg⟩
theorem nums_stays (h : Nums W base v zs) {S : Nat → Prop} (t : Turn S W W') (hS : ∀ k, v.ownBlock = some k → ¬ S k) : Nums W' base v zs := by
  refine ⟨h.1, ?_⟩
  rcases h.2 with e | ⟨g, c, cur, rfl, hb, hg, h3⟩
  · exact .inl e
  · exact .inr ⟨g, c, cur, rfl, hb, (t.block g (lt_of_heap hg) (hS g rfl)).trans hg, h3⟩
theorem not_mine {a : Option Addr} {cap : Nat} (t : Tab W base tb hb mb a cap xs) {k : Nat} {cur : Array Value} (hk : W.heap[k]? = some (.cells cur 3 (0, 0))) : ¬ (k = tb ∨ mine hb mb a k) := by
  obtain ⟨es, clock, hmb⟩ := t.mb_obj
  rintro (e | e | e | e)
  · subst e; have := t.tab; rw [hk] at this; simp at this
  · subst e; have := t.held; rw [hk] at this; simp at this
  · subst e; rw [hk] at hmb; cases hmb
  · obtain ⟨cur2, hc⟩ := t.row.obj _ e; rw [hk] at hc; simp at hc
theorem put_nums (h : Only W base tb hb mb xs) (hN : Nums W base v zs) (s : ByteArray) (hs : s.size ≤ 281474976710656) :
    Calls Try.prog 13 #[.pointer (some ⟨tb, 0, none⟩), .string s] W fun e w' => e = .returned (.tuple #[.int .i64 (ansN xs s : Int), .int .i64 (ansE xs s)]) ∧ Only w' base tb hb mb (put xs s) ∧ Below base W w' ∧ Nums w' base v zs := by
  obtain ⟨a, cap, h1⟩ := h
  exact (put_any h1 s hs).mono fun e w' ⟨he, a', cap', l⟩ => ⟨he, ⟨a', cap', l.tab⟩, l.below h1, nums_stays hN l.turn (fun k e => by
    obtain ⟨cur, hc⟩ := nums_obj hN k e
    exact fun e2 => not_mine h1 hc (.inr e2))⟩
theorem only_grown (h : Only W base tb hb mb xs) (hN : Nums W base v zs) (hg : W.grownBy W' v.ownBlock) : Only W' base tb hb mb xs := by
  obtain ⟨a, cap, h1⟩ := h
  refine ⟨a, cap, h1.stays (S := fun k => v.ownBlock = some k) (Turn.of_grownBy hg (fun k e => e)) (fun k e e2 => ?_)⟩
  obtain ⟨cur, hc⟩ := nums_obj hN k e2
  exact not_mine h1 hc e
theorem nums_cell {g cap : Nat} {len : Nat} (h : Nums W base (.slice (some ⟨g, 0, none⟩) len cap) zs) {j : Nat} {n : Int} (hj : zs[j]? = some n) : W.cell? ⟨g, j, none⟩ = some (.int .i64 n) := by
  have := World.ownsRow.cells h (g := g) rfl j (.int .i64 n) (by simp [hj])
  cases j <;> simpa [Addr.add] using this
end

theorem below_drewN (B : Nat) (w : World) (n : Nat) : Below B w (w.drewN n) := ⟨rfl, rfl, rfl, Nat.le_refl _, fun _ _ => rfl⟩

def KRel (W : World) (tb hb mb : Nat) (l : List ByteArray) (M : Nat) (v i : Value) (wr : World) : Prop :=
  ∃ k : Nat, k ≤ M ∧ i = .int .i64 (k : Int) ∧ Only wr W.heap.size tb hb mb (puts (l.take k)) ∧ Below W.heap.size W wr ∧ Nums wr W.heap.size v (meets l k)
/-- Between two rounds of the loops that look. -/
def KRel2 (W : World) (tb hb mb : Nat) (zs : List ByteArray) (v : Value) (ms : List Int) (M : Nat) (i : Value) (wr : World) : Prop :=
  ∃ k : Nat, k ≤ M ∧ i = .int .i64 (k : Int) ∧ Only wr W.heap.size tb hb mb zs ∧ Below W.heap.size W wr ∧ Nums wr W.heap.size v ms

theorem num_inj {zs : List ByteArray} {x y : ByteArray} (hx : there zs x = true) (hy : there zs y = true) (h : num zs x = num zs y) : x = y := by
  have h1 := (num_at hx).1
  rw [h, (num_at hy).1] at h1
  simpa using h1.symm
theorem text_num {zs : List ByteArray} {x : ByteArray} (hx : there zs x = true) : textAt zs (num zs x : Int) = x ∧ isNum zs (num zs x : Int) = true := by
  obtain ⟨h1, h2⟩ := num_at hx
  constructor
  · simp [textAt, h1]
  · simp [isNum]; omega

set_option maxRecDepth 100000 in
set_option maxHeartbeats 8000000 in
theorem symKeeps_walk (W : World) (v : Value) (l : List ByteArray) (hA : Arg W v 281474976710656 l) :
    Calls Try.prog 5 #[v] W fun e w' => e = .returned (.bool true) ∧ Below W.heap.size W w' := by
  obtain ⟨M, hM, hM1, hM2⟩ : ∃ M : Nat, min (l.length : Int) 500 = (M : Int) ∧ M ≤ l.length ∧ M ≤ 500 := ⟨min l.length 500, by omega, by omega, by omega⟩
  rcases hA with ⟨rfl, rfl⟩ | ⟨ad, cap, rfl, hc1, hc2, hcell⟩
  · obtain rfl : M = 0 := by simpa using hM1
    clear hM hM1 hM2
    go_enter Try.func5, Try.ntmps5
    go_wp2_with fail
    refine (new_any W).mono ?_
    rintro e w0 ⟨rfl, h0, b0⟩
    go_wp2_with fail
    refine (alive_any _).mono ?_
    rintro e w1 ⟨rfl, b1⟩
    have bB : Below W.heap.size W w1 := b0.trans (b1.mono b0.size)
    clear b0 b1 h0
    go_wp2_with fail
    refine wp_loop_rounds 1 ?_
    rw [rounds_succ]
    go_wp2_with fail
    refine wp_loop_rounds 1 ?_
    rw [rounds_succ]
    go_wp2_with fail
    go_ret
    exact ⟨rfl, bB⟩
  · obtain ⟨i0, hi, hz0, hz1, hz2⟩ := info_parts (show (Try.prog.info? 3).map (fun i => (i.zero, i.size, i.bytes)) = some (some (.int .i64 0), 1, 8) by kernel_rfl)
    go_enter Try.func5, Try.ntmps5
    go_wp2_with fail
    refine (new_any W).mono ?_
    rintro e w0 ⟨rfl, h0, b0⟩
    have hO : Only w0 W.heap.size _ _ _ [] := ⟨none, 0, h0⟩
    clear h0
    go_wp2_with fail
    refine (alive_any _).mono ?_
    rintro e w1 ⟨rfl, b1⟩
    have hB := hO.later b1
    have bB : Below W.heap.size W w1 := b0.trans (b1.mono b0.size)
    clear b0 b1 hO
    go_wp2_with fail
    go_loopw [4, 29] (fun v i wr => KRel W (W.heap.size + 1 + 1) (W.heap.size + 1) W.heap.size l M v i wr) (fun _ i _ => M - (intOf i).toNat)
    case atStart => exact ⟨0, Nat.zero_le _, rfl, by simpa [puts] using hB, bB, World.ownsRow_nil _ _ _ _⟩
    case round =>
      obtain ⟨k, hk, rfl, hB1, bB1, hN⟩ := hrel
      clear hB bB
      by_cases hlt : k < M
      · obtain ⟨b, off, rfl, hc, hs⟩ := arg_cell hcell bB1 (show k < l.length by omega)
        have hp := puts_take (l := l) (show k < l.length by omega)
        have hm : meets l (k + 1) = meets l k ++ [(ansN (puts (l.take k)) l[k] : Int)] := by simp [meets, show k < l.length by omega]
        have hlen := puts_length (l.take k)
        have he := (put_room (xs := puts (l.take k)) (s := l[k]) (by simp at hlen; omega)).1
        have hi2 : (k : Int) < (M : Int) := by omega
        have HP : Hid _ := hp
        have HM : Hid _ := hm
        clear hp hm hlen
        generalize l[k] = s at hc hs HP HM he
        have hcall := put_nums hB1 hN s hs
        rw [he] at hcall
        clear he
        generalize ansN (puts (l.take k)) s = n at hcall HM
        have hln : (meets l k).length = k := meets_length l k
        go_wp2_with fail
        refine hcall.mono ?_
        rintro e w2 ⟨rfl, hB2, b2, hN2⟩
        clear hcall
        have hsz := Nat.le_trans bB1.size b2.size
        go_wp2_with (first
          | (at_builtin; refine wpList_append_own _ rfl _ _ 42 rfl W.heap.size 3 i0 (.int .i64 0) 1 8 Try.underlying42 hi hz0 hz1 hz2 rfl (by decide) _ _ _ rfl (hN2.alloc _) ⟨w2.heap.size, 0, none⟩ 1 1 [.int .i64 (n : Int)] rfl rfl (cell_one_new _ _ _) (by simp [Value.oneCell']) (by unfold maxLen; omega) (by omega) (by simp; omega) ?_; intro v' w3 hown hgrow hnil)
          | go_in)
        go_roundw
        case rel =>
          refine ⟨k + 1, by omega, by go_num, ?_, ?_, ?_⟩
          · rw [HP.out]
            exact only_grown (hB2.later ((Below.refl _ w2).alloc (Nat.le_refl _) _)) (hN2.alloc _) hgrow
          · exact ((bB1.trans b2).alloc hsz _).grown hgrow (by simp; omega) (fun q e => (World.ownsRow.lt hN2 q e).1)
          · rw [HM.out]
            simpa [Nums] using hown
        case measure => simp [intOf]; omega
      · obtain rfl : k = M := by omega
        have hle : ¬ (k : Int) < (k : Int) := by omega
        clear hlt
        by_cases h0 : k = 0
        · subst h0
          go_wp2_with fail
          refine wp_loop_rounds 1 ?_
          rw [rounds_succ]
          go_wp2_with fail
          go_ret
          exact ⟨rfl, bB1⟩
        · obtain ⟨b, off, rfl, _, _⟩ := arg_cell hcell bB1 (show 0 < l.length by omega)
          have hlen := puts_length (l.take k)
          have hT : ∀ j, j < k → ∃ x, l[j]? = some x ∧ there (puts (l.take k)) x = true ∧ (meets l k)[j]? = some (num (puts (l.take k)) x : Int) ∧ x.size ≤ 281474976710656 := fun j hj => by
            have hjl : j < l.length := by omega
            obtain ⟨e1, e2⟩ := puts_keeps l j hjl (by omega) k hj hM1
            refine ⟨l[j], by simp [hjl], e1, ?_, (hcell j l[j] (by simp [hjl])).2.2⟩
            rw [meets_at l k j hj, e2]
            simp [hjl]
          have hC : ∀ (wq : World), Below W.heap.size W wq → ∀ j x, l[j]? = some x → wq.cell? ⟨b, off + j, none⟩ = some (.string x) := fun wq hq j x hj => by
            obtain ⟨hjl, rfl⟩ := List.getElem?_eq_some_iff.1 hj
            obtain ⟨b', off', e1, e2, _⟩ := arg_cell hcell hq hjl
            obtain ⟨rfl, rfl⟩ : b = b' ∧ off = off' := by simpa using e1
            exact e2
          have hln : (meets l k).length = k := meets_length l k
          generalize puts (l.take k) = zs at hB1 hT hlen
          generalize meets l k = ms at hN hT hln
          obtain ⟨k', rfl⟩ : ∃ k', k = k' + 1 := ⟨k - 1, by omega⟩
          have hN' := hN
          unfold Nums at hN'
          rw [hln] at hN'
          obtain ⟨g, cap', rfl⟩ := ownsRow_succ hN'
          clear hN' hcell hlen
          go_wp2_with fail
          go_loopw [48] (fun i wr => KRel2 W (W.heap.size + 1 + 1) (W.heap.size + 1) W.heap.size zs (.slice (some ⟨g, 0, none⟩) (k' + 1) cap') ms (k' + 1) i wr) (fun i _ => k' + 1 - (intOf i).toNat)
          case atStart => exact ⟨0, Nat.zero_le _, rfl, hB1, bB1, hN⟩
          case round =>
            clear hB1 bB1 hN
            obtain ⟨j, hj, rfl, hB1, bB1, hN⟩ := hrel
            by_cases hlt : j < k' + 1
            · obtain ⟨x, hx, ht, hm, hs⟩ := hT j hlt
              have c1 := hC _ bB1 j x hx
              have c2 := nums_cell hN hm
              have cg := get_only hB1 x hs
              have ct := text_only hB1 (num zs x : Int)
              rw [ht] at cg
              rw [(text_num ht).1, (text_num ht).2] at ct
              have hi1 : (j : Int) < ((k' + 1 : Nat) : Int) := by omega
              have HX : Hid _ := hx
              clear hx
              go_wp2_with fail
              refine cg.mono ?_
              rintro e w' ⟨rfl, rfl⟩
              go_wp2_with fail
              refine ct.mono ?_
              rintro e w' ⟨rfl, rfl⟩
              clear cg ct
              go_wp2_with fail
              go_loopw [92] (fun i wr => KRel2 W (W.heap.size + 1 + 1) (W.heap.size + 1) W.heap.size zs (.slice (some ⟨g, 0, none⟩) (k' + 1) cap') ms j i wr) (fun i _ => j - (intOf i).toNat)
              case atStart => exact ⟨0, Nat.zero_le _, rfl, hB1, bB1, hN⟩
              case round =>
                clear hB1 bB1 hN c1 c2
                obtain ⟨q, hq, rfl, hB1, bB1, hN⟩ := hrel
                by_cases hlt2 : q < j
                · obtain ⟨y, hy, ht2, hm2, _⟩ := hT q (by omega)
                  have c1 := hC _ bB1 j x HX.out
                  have c2 := nums_cell hN hm
                  have c3 := hC _ bB1 q y hy
                  have c4 := nums_cell hN hm2
                  have hi2 : (q : Int) < (j : Int) := by omega
                  have hi3 : (q : Int) < ((k' + 1 : Nat) : Int) := by omega
                  clear hy
                  by_cases hxy : x = y
                  · subst hxy
                    go_wp2_with fail
                    go_quiet (fail)
                    go_wp2_with fail
                    go_roundw
                    case rel => exact ⟨q + 1, by omega, by go_num, hB1.later (below_drewN _ _ _), bB1.trans (below_drewN _ _ _), hN⟩
                    case measure => simp [intOf]; omega
                  · have hne : ¬ ((num zs x : Nat) : Int) = ((num zs y : Nat) : Int) := fun e => hxy (num_inj ht ht2 (by omega))
                    have hf := same_false hxy
                    go_wp2_with fail
                    go_quiet (fail)
                    go_wp2_with fail
                    go_roundw
                    case rel => exact ⟨q + 1, by omega, by go_num, hB1.later (below_drewN _ _ _), bB1.trans (below_drewN _ _ _), hN⟩
                    case measure => simp [intOf]; omega
                · obtain rfl : q = j := by omega
                  have hle2 : ¬ (q : Int) < (q : Int) := by omega
                  go_wp2_with fail
                  go_roundw
                  case rel => exact ⟨q + 1, by omega, by go_num, hB1, bB1, hN⟩
                  case measure => simp [intOf]; omega
            · obtain rfl : j = k' + 1 := by omega
              go_wp2_with fail
              go_ret
              exact ⟨rfl, bB1⟩
end Go.Proofs.Ytomlednmikgkcaa
