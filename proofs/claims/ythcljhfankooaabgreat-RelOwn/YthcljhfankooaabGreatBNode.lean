/- A tree of tuples in memory; the place of a tuple in a node; whether a tuple is there. -/
import Derived.Test.YthcljhfankooaabGreatBSets
import Derived.Deep.LoopGhost
namespace Go.Proofs.YthcljhfankooaabGreat
open Go.RowKit Go.Shelf

/-- A node: its tuples, its kids (of a leaf none). -/
structure NodeAt (S : Nat → Prop) (w : World) (d m b n : Nat) (tv kv : Value) (t : Nat → Item) (k : Nat → Option Addr) : Prop where
  sb : S b
  c0 : w.cell? ⟨b, 0, none⟩ = some tv
  c1 : w.cell? ⟨b, 1, none⟩ = some kv
  row : Row S w tv n (fun j => (t j).1)
  items : ∀ j, j < n → IntsS S w (t j).1 (t j).2
  len : n ≤ m
  leaf : d = 0 → kv = .slice none 0 0 ∧ ∀ i, k i = none
  inner : d ≠ 0 → Row S w kv (n + 1) (fun j => .pointer (k j))
theorem NodeAt.stays {S : Nat → Prop} {w w' : World} {d m b n : Nat} {tv kv : Value} {t : Nat → Item} {k : Nat → Option Addr} (h : NodeAt S w d m b n tv kv t k) (hs : Stays S w w') : NodeAt S w' d m b n tv kv t k :=
  ⟨h.sb, hs.cell h.c0 h.sb, hs.cell h.c1 h.sb, h.row.stays hs, fun j hj => (h.items j hj).stays hs, h.len, h.leaf, fun hd => (h.inner hd).stays hs⟩
theorem NodeAt.mono {S S' : Nat → Prop} {w : World} {d m b n : Nat} {tv kv : Value} {t : Nat → Item} {k : Nat → Option Addr} (h : NodeAt S w d m b n tv kv t k) (hs : ∀ b, b < w.heap.size → S b → S' b) : NodeAt S' w d m b n tv kv t k :=
  ⟨hs b (by obtain ⟨o, ho, _⟩ := cells_of_cell h.c0; exact lt_heap ho) h.sb, h.c0, h.c1, h.row.mono hs, fun j hj => (h.items j hj).mono hs, h.len, h.leaf, fun hd => (h.inner hd).mono hs⟩

/-- A tree of that height whose tuples, in order, are these; its uppermost node has at most m. -/
def Tree (S : Nat → Prop) (w : World) : Nat → Nat → Option Addr → List Item → Prop
  | 0, _, p, l => p = none ∧ l = []
  | d + 1, m, p, l => ∃ (b n : Nat) (tv kv : Value) (t : Nat → Item) (c : Nat → List Item) (k : Nat → Option Addr), p = some ⟨b, 0, none⟩ ∧ l = seg c t 0 n ∧ NodeAt S w d m b n tv kv t k ∧ ∀ i, i ≤ n → Tree S w d 15 (k i) (c i)
theorem Tree.stays {S : Nat → Prop} {w w' : World} (hs : Stays S w w') : ∀ {d m : Nat} {p : Option Addr} {l : List Item}, Tree S w d m p l → Tree S w' d m p l
  | 0, _, _, _, h => h
  | _ + 1, _, _, _, ⟨b, n, tv, kv, t, c, k, hp, hl, hn, hk⟩ => ⟨b, n, tv, kv, t, c, k, hp, hl, hn.stays hs, fun i hi => Tree.stays hs (hk i hi)⟩
theorem Tree.later {S : Nat → Prop} {w w' : World} (hs : Below w.heap.size w w') {d m : Nat} {p : Option Addr} {l : List Item} (h : Tree S w d m p l) : Tree S w' d m p l := h.stays (Stays.of_below hs)
theorem Tree.mono {S S' : Nat → Prop} {w : World} (hs : ∀ b, b < w.heap.size → S b → S' b) : ∀ {d m : Nat} {p : Option Addr} {l : List Item}, Tree S w d m p l → Tree S' w d m p l
  | 0, _, _, _, h => h
  | _ + 1, _, _, _, ⟨b, n, tv, kv, t, c, k, hp, hl, hn, hk⟩ => ⟨b, n, tv, kv, t, c, k, hp, hl, hn.mono hs, fun i hi => Tree.mono hs (hk i hi)⟩
theorem Tree.wide {S : Nat → Prop} {w : World} {m m' : Nat} (hm : m ≤ m') : ∀ {d : Nat} {p : Option Addr} {l : List Item}, Tree S w d m p l → Tree S w d m' p l
  | 0, _, _, h => h
  | _ + 1, _, _, ⟨b, n, tv, kv, t, c, k, hp, hl, hn, hk⟩ => ⟨b, n, tv, kv, t, c, k, hp, hl, { hn with len := Nat.le_trans hn.len hm }, hk⟩
theorem Tree.items {S : Nat → Prop} {w : World} : ∀ {d m : Nat} {p : Option Addr} {l : List Item}, Tree S w d m p l → ∀ x ∈ l, IntsS S w x.1 x.2
  | 0, _, _, _, h, x, hx => by rw [h.2] at hx; cases hx
  | d + 1, _, _, _, ⟨b, n, tv, kv, t, c, k, hp, hl, hn, hk⟩, x, hx => by
    subst hl
    have key : ∀ k i, i + k = n → x ∈ seg c t i k → IntsS S w x.1 x.2 := by
      intro k
      induction k with
      | zero => intro i hi h; exact Tree.items (hk i (by omega)) x h
      | succ k ih =>
        intro i hi h
        rw [seg, List.mem_append] at h
        rcases h with h | h
        · exact Tree.items (hk i (by omega)) x h
        · rcases List.mem_cons.1 h with e | h
          · rw [e]; exact hn.items i (by omega)
          · exact ih (i + 1) (by omega) h
    exact key n 0 (by omega) hx

/-- The look at two tuples by the order that was caught. -/
theorem find1_any (w : World) (ob : Nat) (ov a b : Value) (o s t : List Int) (hob : w.cell? ⟨ob, 0, none⟩ = some ov) (ho : Ints w.heap.size w ov o) (hs : Ints w.heap.size w a s) (ht : Ints w.heap.size w b t) :
    Calls Tryz.prog 142 #[a, b, .pointer (some ⟨ob, 0, none⟩)] w fun e w' => e = .returned (.int .i64 (cmpA o s t)) ∧ Below w.heap.size w w' := by
  have hc := cmp_any w.heap.size w ov a b o s t (Nat.le_refl _) ho hs ht
  obtain ⟨_, _, rfl, _⟩ := ho
  obtain ⟨_, _, rfl, _⟩ := hs
  obtain ⟨_, _, rfl, _⟩ := ht
  go_enter Tryz.func142, Tryz.ntmps142
  go_wp2_with (go_at_call 143; refine hc.mono ?_; rintro e w' ⟨rfl, hb⟩)
  go_ret
  exact ⟨rfl, hb⟩

/-- The place of x among tuples that rise. -/
def Place (o x : List Int) (t : Nat → Item) (n i : Nat) : Prop := i ≤ n ∧ (∀ j, j < i → cmpA o (t j).2 x < 0) ∧ (∀ j, i ≤ j → j < n → 0 ≤ cmpA o (t j).2 x)
def found (o x : List Int) (t : Nat → Item) (n i : Nat) : Bool := decide (i < n ∧ cmpA o (t i).2 x = 0)
def BRel (w : World) (o x : List Int) (t : Nat → Item) (n : Nat) (s9 s10 : Value) (wr : World) : Prop :=
  ∃ lo hi : Nat, s9 = .int .i64 lo ∧ s10 = .int .i64 hi ∧ lo ≤ hi ∧ hi ≤ n ∧ Below w.heap.size w wr ∧ (∀ j, j < lo → cmpA o (t j).2 x < 0) ∧ (∀ j, hi ≤ j → j < n → 0 ≤ cmpA o (t j).2 x)

theorem tupB {i : Int} {a b : Bool} (h : a = b) : Ending.returned (.tuple #[.int .i64 i, .bool a]) = .returned (.tuple #[.int .i64 i, .bool b]) := by rw [h]
theorem mid_wrap {lo hi : Nat} (h : lo + hi ≤ 2000) : (IntKind.i64.wrap ((lo : Int) + (hi : Int))) = ((lo + hi : Nat) : Int) := by rw [IntKind.wrap_i64]; omega

set_option maxRecDepth 100000 in
set_option maxHeartbeats 4000000 in
theorem bsf_any (S : Nat → Prop) (w : World) (ob n : Nat) (ov tv xv : Value) (o x : List Int) (t : Nat → Item) (hr : right o = true) (hn : n ≤ 1000) (hx : x.length = o.length) (hob : w.cell? ⟨ob, 0, none⟩ = some ov) (ho : Ints w.heap.size w ov o) (hxv : Ints w.heap.size w xv x)
    (hrow : Row S w tv n (fun j => (t j).1)) (hit : ∀ j, j < n → IntsS S w (t j).1 (t j).2) (hw : ∀ j, j < n → (t j).2.length = o.length) (hts : ∀ i j, i < j → j < n → cmpA o (t i).2 (t j).2 < 0) :
    Calls Tryz.prog 141 #[tv, xv, .func (.func 142) #[] #[.pointer (some ⟨ob, 0, none⟩)]] w fun e w' => ∃ i, e = .returned (.tuple #[.int .i64 (i : Nat), .bool (found o x t n i)]) ∧ Place o x t n i ∧ Below w.heap.size w w' := by
  have HCMP : Hid (∀ wr j, Below w.heap.size w wr → j < n → Calls Tryz.prog 142 #[(t j).1, xv, .pointer (some ⟨ob, 0, none⟩)] wr fun e w' => e = .returned (.int .i64 (cmpA o (t j).2 x)) ∧ Below wr.heap.size wr w') := fun wr j hb hj => by
    have hob' : ob < w.heap.size := by obtain ⟨_, h, _⟩ := cells_of_cell hob; exact lt_heap h
    have st : Stays S w wr := Stays.of_below hb
    exact find1_any wr ob ov _ xv o _ x ((hb.cell (p := ⟨ob, 0, none⟩) hob').trans hob) ((ho.below hb (Nat.le_refl _)).mono hb.size) ((hit j hj).stays st).ints ((hxv.below hb (Nat.le_refl _)).mono hb.size)
  have MONO : Hid (∀ i j, i ≤ j → j < n → cmpA o (t j).2 x < 0 → cmpA o (t i).2 x < 0) := fun i j hij hj h => by
    rcases Nat.lt_or_ge i j with h1 | h1
    · exact cmpA_lt_le hr (hw i (by omega)) (hw j hj) hx (hts i j h1 hj) (Int.le_of_lt h)
    · obtain rfl : i = j := by omega
      exact h
  obtain ⟨xa, xc, rfl, _⟩ := hxv
  obtain ⟨ta, tc, rfl, htc, htc2, hcell⟩ := hrow
  have HC : Hid (∀ wr, Below w.heap.size w wr → ∀ j, j < n → ∃ b off sa sc, ta = some ⟨b, off, none⟩ ∧ (t j).1 = .slice sa (t j).2.length sc ∧ wr.cell? ⟨b, off + j, none⟩ = some (.slice sa (t j).2.length sc)) := fun wr hb j hj => by
    obtain ⟨b, off, e, _, hc⟩ := hcell j hj
    obtain ⟨sa, sc, e2, _⟩ := hit j hj
    have hlt : b < w.heap.size := by obtain ⟨_, h, _⟩ := cells_of_cell hc; exact lt_heap h
    exact ⟨b, off, sa, sc, e, e2, by rw [← e2]; exact (hb.cell (p := ⟨b, off + j, none⟩) hlt).trans hc⟩
  have HX := hide hx
  clear hcell hts hw hit ho hob hx
  go_enter Tryz.func141, Tryz.ntmps141
  go_wp2_with fail
  go_loopw [9, 10] (fun s9 s10 wr => BRel w o x t n s9 s10 wr) (fun s9 s10 _ => (intOf s10).toNat - (intOf s9).toNat)
  case atStart => exact ⟨0, n, rfl, rfl, Nat.zero_le _, Nat.le_refl _, Below.refl _ _, fun j hj => by omega, fun j h1 h2 => by omega⟩
  case round =>
    obtain ⟨lo, hi, rfl, rfl, hlh, hin, hb, hlo, hhi⟩ := hrel
    have HL := hide hlo
    have HH := hide hhi
    have HB := hide hb
    clear hlo hhi
    by_cases hlt : lo < hi
    · obtain ⟨b, off, sa, sc, rfl, e2, hc⟩ := unhide HC _ hb ((lo + hi) / 2) (by omega)
      have hcall := unhide HCMP _ ((lo + hi) / 2) hb (by omega)
      rw [e2] at hcall
      have HE := hide e2
      clear e2 hb
      generalize hq : cmpA o (t ((lo + hi) / 2)).2 x = q at hcall
      have HQ := hide hq
      clear hq
      have hw1 := mid_wrap (lo := lo) (hi := hi) (by omega)
      by_cases hneg : q < 0
      · go_wp2_with (go_at_call 142; refine hcall.mono ?_; rintro e w' ⟨rfl, hb2⟩)
        go_roundw
        case rel =>
          refine ⟨(lo + hi) / 2 + 1, hi, by go_num, rfl, by omega, hin, (unhide HB).trans (hb2.mono (unhide HB).size), fun j hj => ?_, unhide HH⟩
          exact unhide MONO j ((lo + hi) / 2) (by omega) (by omega) (by rw [unhide HQ]; exact hneg)
        case measure => simp [intOf]; omega
      · go_wp2_with (go_at_call 142; refine hcall.mono ?_; rintro e w' ⟨rfl, hb2⟩)
        go_roundw
        case rel =>
          refine ⟨lo, (lo + hi) / 2, rfl, by go_num, by omega, by omega, (unhide HB).trans (hb2.mono (unhide HB).size), unhide HL, fun j h1 h2 => ?_⟩
          refine Int.not_lt.1 fun h => ?_
          have h3 := unhide MONO ((lo + hi) / 2) j h1 h2 h
          rw [unhide HQ] at h3
          omega
        case measure => simp [intOf]; omega
    · obtain rfl : lo = hi := by omega
      have hpl : Place o x t n lo := ⟨hin, unhide HL, unhide HH⟩
      have HP := hide hpl
      clear hpl
      by_cases hend : lo < n
      · obtain ⟨b, off, sa, sc, rfl, e2, hc⟩ := unhide HC _ hb lo hend
        have hcall := unhide HCMP _ lo hb hend
        rw [e2] at hcall
        have HF : Hid (found o x t n lo = decide (cmpA o (t lo).2 x = 0)) := by show found _ _ _ _ _ = _; simp [found, hend]
        clear e2 hb
        generalize cmpA o (t lo).2 x = q at hcall HF
        go_wp2_with (go_at_call 142; refine hcall.mono ?_; rintro e w' ⟨rfl, hb2⟩)
        go_ret2
        exact ⟨lo, tupB (unhide HF).symm, unhide HP, (unhide HB).trans (hb2.mono (unhide HB).size)⟩
      · have HF : Hid (found o x t n lo = false) := by show found _ _ _ _ _ = _; simp [found, hend]
        go_wp2_with fail
        go_ret2
        exact ⟨lo, tupB (unhide HF).symm, unhide HP, unhide HB⟩
end Go.Proofs.YthcljhfankooaabGreat
