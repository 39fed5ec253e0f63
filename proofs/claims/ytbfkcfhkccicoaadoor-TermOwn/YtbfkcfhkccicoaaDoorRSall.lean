/- The document's store in memory: its table of texts, its row of Cons; Get, Text and Put of the table, and con. The document's store: Text and Put of its table. The document's store: what Put comes to, as a plain function; put of a Num and of a Sym; what an append leaves. The document's store: put of a Con. The document's store: Put, Get and Back. The store and the document's store, side by side: plain facts. -/
import Derived.Test.YtbfkcfhkccicoaaDoorBackXP
import Derived.Deep.RegionLaw
import Derived.Deep.Cut
import Derived.Deep.CutRange
namespace Go.Proofs.YtbfkcfhkccicoaaDoor
open Go.RowKit Go.Maps

/-- Where its blocks lie. -/
structure RP where
  base : Nat
  rb : Nat
  ta : Option Addr
  tc : Nat
  ca : Option Addr
  cc : Nat
/-- The blocks that a Put may turn. -/
def RP.own (r : RP) (k : Nat) : Prop := k = r.rb ∨ r.ta.map Addr.block = some k ∨ r.ca.map Addr.block = some k

/-- The Cons by their index. -/
def nth (cs : List V) (i : Nat) : V := cs.getD i .none

structure RSto (W : World) (r : RP) (xs : List ByteArray) (cs : List V) : Prop where
  box : W.heap[r.rb]? = some (.cells #[.slice r.ta xs.length r.tc, .slice r.ca cs.length r.cc] 29 (0, 0))
  trow : Sym.Row W r.base r.ta r.tc xs
  crow : W.ownsRow r.base 32 4 (.slice r.ca cs.length r.cc) cs.length (cellsTo (nth cs) cs.length)
  tl : xs.length ≤ 16384
  cl : cs.length ≤ 16384
  low : r.base ≤ r.rb

section
variable {W W' : World} {r : RP} {xs : List ByteArray} {cs : List V}

theorem RSto.c0 (h : RSto W r xs cs) : W.cell? ⟨r.rb, 0, none⟩ = some (.slice r.ta xs.length r.tc) := by simp [World.cell?, h.box]
theorem RSto.c1 (h : RSto W r xs cs) : W.cell? ⟨r.rb, 1, none⟩ = some (.slice r.ca cs.length r.cc) := by simp [World.cell?, h.box]
theorem RSto.fz (h : RSto W r xs cs) (o : Nat) : W.frozen? ⟨r.rb, o, none⟩ = false := by simp [World.frozen?, h.box]
theorem RSto.lt (h : RSto W r xs cs) : r.rb < W.heap.size := Sym.lt_of_heap h.box
theorem RSto.crow_obj (h : RSto W r xs cs) : ∀ k, r.ca.map Addr.block = some k → r.base ≤ k ∧ ∃ cur, W.heap[k]? = some (.cells cur 32 (0, 0)) := fun k e => by
  rcases h.crow.2 with ⟨e1, _⟩ | ⟨g, c, cur, e1, hb, hg, _⟩
  · injection e1 with e2 _ _; rw [e2] at e; simp at e
  · injection e1 with e2 _ _
    rw [e2] at e
    have : g = k := by simpa using e
    subst this
    exact ⟨hb, cur, hg⟩
theorem RSto.ta_ne (h : RSto W r xs cs) : ∀ k, r.ta.map Addr.block = some k → k ≠ r.rb ∧ r.ca.map Addr.block ≠ some k := fun k e => by
  obtain ⟨cur, hc⟩ := h.trow.obj k e
  refine ⟨fun e2 => ?_, fun e2 => ?_⟩
  · have hb := h.box; rw [← e2, hc] at hb; simp at hb
  · obtain ⟨_, cur2, hc2⟩ := h.crow_obj k e2
    rw [hc] at hc2; simp at hc2
theorem RSto.ca_ne (h : RSto W r xs cs) : ∀ k, r.ca.map Addr.block = some k → k ≠ r.rb := fun k e e2 => by
  obtain ⟨_, cur, hc⟩ := h.crow_obj k e
  have hb := h.box; rw [← e2, hc] at hb; simp at hb
theorem RSto.own_lt (h : RSto W r xs cs) : ∀ k, r.own k → r.base ≤ k ∧ k < W.heap.size := by
  rintro k (e | e | e)
  · subst e; exact ⟨h.low, h.lt⟩
  · exact h.trow.lt k e
  · obtain ⟨hb, cur, hc⟩ := h.crow_obj k e
    exact ⟨hb, Sym.lt_of_heap hc⟩
theorem crow_stays {base : Nat} {a : Option Addr} {n c : Nat} {ys : List Value} {Q : Nat → Prop} (h : W.ownsRow base 32 4 (.slice a n c) n ys) (t : Turn Q W W') (hQ : ∀ k, a.map Addr.block = some k → ¬ Q k) : W'.ownsRow base 32 4 (.slice a n c) n ys := by
  refine ⟨h.1, ?_⟩
  rcases h.2 with e | ⟨g, c', cur, e1, hb, hg, h3⟩
  · exact .inl e
  · have e2 : a = some ⟨g, 0, none⟩ := by injection e1
    exact .inr ⟨g, c', cur, e1, hb, (t.block g (Sym.lt_of_heap hg) (hQ g (by rw [e2]; rfl))).trans hg, h3⟩
theorem RSto.stays {Q : Nat → Prop} (h : RSto W r xs cs) (t : Turn Q W W') (hQ : ∀ k, r.own k → ¬ Q k) : RSto W' r xs cs :=
  ⟨(t.block _ h.lt (hQ _ (.inl rfl))).trans h.box, h.trow.stays t (fun k e => hQ k (.inr (.inl e))), crow_stays h.crow t (fun k e => hQ k (.inr (.inr e))), h.tl, h.cl, h.low⟩
theorem RSto.later (h : RSto W r xs cs) (t : Below W.heap.size W W') : RSto W' r xs cs := h.stays (Q := fun _ => False) (Turn.of_below t) (fun _ _ e => e)
theorem RSto.con_at (h : RSto W r xs cs) {i : Nat} (hi : i < cs.length) : ∃ g, r.ca = some ⟨g, 0, none⟩ ∧ g < W.heap.size ∧ CellsAt W g (i * 4) (nth cs i) := by
  rcases h.crow.2 with ⟨_, h0⟩ | ⟨g, c, cur, e1, hb, hg, _⟩
  · omega
  · injection e1 with e2 _ _
    have hrow := h.crow
    rw [e2] at hrow
    have hc : ∀ q, q < 4 → W.cell? ⟨g, i * 4 + q, none⟩ = (nth cs i).row[q]? := fun q hq => by
      rw [World.ownsRow.cellAt hrow (i * 4 + q) (by omega)]
      exact cellsTo_at (nth cs) cs.length i hi q hq
    exact ⟨g, e2, Sym.lt_of_heap hg, hc 0 (by omega), hc 1 (by omega), hc 2 (by omega), hc 3 (by omega)⟩
end

theorem str_same_false {t s : ByteArray} (h : t ≠ s) : (t.toList == s.toList) = false := by
  rw [ByteArray.toList_eq, ByteArray.toList_eq]
  simp only [beq_eq_false_iff_ne, ne_eq]
  exact fun e => h (ByteArray.ext (Array.toList_inj.1 e))
theorem str_same_true (s : ByteArray) : (s.toList == s.toList) = true := by simp

section
variable {W : World} {r : RP} {xs : List ByteArray} {cs : List V}

set_option maxRecDepth 100000 in
set_option maxHeartbeats 4000000 in
theorem rsget_any (h : RSto W r xs cs) (s : ByteArray) :
    Calls Tryd.prog 53 #[.pointer (some ⟨r.rb, 0, none⟩), .string s] W fun e w' => e = .returned (.tuple #[.int .i64 (Sym.num xs s : Int), .bool (Sym.there xs s)]) ∧ w' = W := by
  have c0 := h.c0
  have hr := h.trow.reads
  have hl := h.tl
  have HR := hide hr
  clear hr h
  go_enter Tryd.func53, Tryd.ntmps53
  go_wp2_with fail
  go_loop [6] (fun i => ∃ k : Nat, k ≤ xs.length ∧ i = .int .i64 k ∧ Hid (∀ j, j < k → xs[j]? ≠ some s)) (fun i => xs.length - (intOf i).toNat)
  case atStart => exact ⟨0, Nat.zero_le _, rfl, fun j hj => by omega⟩
  case round =>
    obtain ⟨k, hk, rfl, hne⟩ := hrel
    by_cases hlt : k < xs.length
    · obtain ⟨g, ha, hc⟩ := unhide HR k xs[k] (by simp [hlt])
      rw [ha] at c0
      have hi : (k : Int) < (xs.length : Int) := by omega
      have hx : Hid (xs[k]? = some xs[k]) := by simp [Hid, hlt]
      generalize xs[k] = t at hc hx
      clear ha
      by_cases e : t = s
      · subst e
        have hf := str_same_true t
        have HN := hide (Sym.there_at hne.out hx.out)
        go_wp2_with fail
        go_ret2
        rw [(unhide HN).1, (unhide HN).2]
        exact ⟨rfl, rfl⟩
      · have hf := str_same_false e
        have HE := hide e
        clear e
        go_wp2_with fail
        go_round
        case rel => exact ⟨k + 1, by omega, by go_num, fun j hj => by
          by_cases e2 : j < k
          · exact hne.out j e2
          · obtain rfl : j = k := by omega
            rw [hx.out]
            exact fun e3 => unhide HE (by simpa using e3)⟩
        case measure => simp [intOf]; omega
    · obtain rfl : k = xs.length := by omega
      have HN := hide (Sym.there_out hne.out)
      go_wp2_with fail
      go_ret2
      rw [(unhide HN).1, (unhide HN).2]
      exact ⟨rfl, rfl⟩

/-- The number of a Con that stands there; -1. -/
def conV : List V → V → Nat → Int
  | [], _, _ => -1
  | c :: r, v, k => if c.std v = 0 then (k : Int) else conV r v (k + 1)
theorem conV_drop {cs : List V} {v : V} {k : Nat} (hk : k < cs.length) : conV (cs.drop k) v k = if (nth cs k).std v = 0 then (k : Int) else conV (cs.drop (k + 1)) v (k + 1) := by
  rw [List.drop_eq_getElem_cons hk]
  have : nth cs k = cs[k] := by simp [nth, List.getD, List.getElem?_eq_getElem hk]
  rw [this]; rfl

open Go.BigFrame in
set_option maxRecDepth 100000 in
set_option maxHeartbeats 4000000 in
theorem con_any (h : RSto W r xs cs) (B : Nat) (hB : B ≤ W.heap.size) (hcs : ∀ i, i < cs.length → (nth cs i).At B W) (v : V) (hv : v.At B W) :
    Calls Tryd.prog 35 #[.pointer (some ⟨r.rb, 0, none⟩), v.val] W fun e w' => e = .returned (.int .i64 (conV cs v 0)) ∧ Below W.heap.size W w' := by
  have HRS := hide h
  have HCS := hide hcs
  have HV := hide hv
  have hl := h.cl
  have b0 := below_box W v.obj
  clear h hcs hv
  go_enter Tryd.func35, Tryd.ntmps35
  go_wp2_with fail
  have hbx := hide (boxed W v)
  generalize hw1 : W.alloc v.obj = w1 at b0 hbx ⊢
  have hs1 : W.heap.size < w1.heap.size := by rw [← hw1]; simp
  clear hw1
  go_loopw [5] (fun i wr => ∃ k : Nat, k ≤ cs.length ∧ i = .int .i64 k ∧ Hid (conV cs v 0 = conV (cs.drop k) v k) ∧ Below w1.heap.size w1 wr) (fun i _ => cs.length - (intOf i).toNat)
  case atStart => exact ⟨0, Nat.zero_le _, rfl, by show _ = _; rfl, Below.refl _ _⟩
  case round =>
    obtain ⟨k, hk, rfl, hq, hb⟩ := hrel
    have bW : Below W.heap.size W wr := b0.trans (hb.mono (Nat.le_of_lt hs1))
    have c1 := ((unhide HRS).later bW).c1
    by_cases hlt : k < cs.length
    · have hi : ∀ i : Later wr, Below W.heap.size W i.val := fun i => bW.trans (i.h.mono bW.size)
      obtain ⟨g, hg, _, _⟩ := ((unhide HRS).later bW).con_at hlt
      have hcc : ∀ i : Later wr, CellsAt i.val g (k * 4) (nth cs k) := fun i => by
        obtain ⟨g', hg', _, hc⟩ := ((unhide HRS).later (hi i)).con_at hlt
        rw [hg] at hg'
        simp only [Option.some.injEq, Addr.mk.injEq, and_true] at hg'
        subst hg'
        exact hc
      have hvv : ∀ i : Later wr, CellsAt i.val W.heap.size 0 v := fun i => (unhide hbx).below (hb.trans (i.h.mono hb.size)) hs1
      have d1 : ∀ i : Later wr, i.val.cell? ⟨r.rb, 1, none⟩ = some (.slice (some ⟨g, 0, none⟩) cs.length r.cc) := fun i => by
        have := ((unhide HRS).later (hi i)).c1
        rw [hg] at this
        exact this
      rw [hg] at c1
      have e0 := fun i : Later wr => (hcc i).c0
      have e1 := fun i : Later wr => (hcc i).c1
      have e2 := fun i : Later wr => (hcc i).c2
      have e3 := fun i : Later wr => (hcc i).c3
      have x0 := fun i : Later wr => (hvv i).z.1
      have x1 := fun i : Later wr => (hvv i).z.2.1
      have x2 := fun i : Later wr => (hvv i).z.2.2.1
      have x3 := fun i : Later wr => (hvv i).z.2.2.2
      obtain ⟨n, hn⟩ : ∃ n, n = (nth cs k).std v := ⟨_, rfl⟩
      have C : Hid (∀ i : Later wr, Calls Tryd.prog 54 #[(nth cs k).val, v.val] i.val fun e w' => e = .returned (.int .i64 n) ∧ ∃ z : Later wr, w' = z.val) := fun i => by
        have h1 := hi i
        have := std_any (nth cs k) v B i.val ((unhide HCS k hlt).below (h1.mono hB)) ((unhide HV).below (h1.mono hB)) (Nat.le_trans hB h1.size)
        rw [← hn] at this
        exact Calls.later this
      have HQ := hide (conV_drop (v := v) hlt)
      rw [← hn] at HQ
      have HHI : Hid (∀ i : Later wr, Below w1.heap.size w1 i.val) := fun i => hb.trans (i.h.mono hb.size)
      have HBI := hide hi
      clear hi hcc hvv hn hg bW hb
      by_cases hz : n = 0
      · have hz1 : (n == 0) = true := by simp [hz]
        have HA : Hid (conV cs v 0 = (k : Int)) := by show _ = _; rw [unhide hq, unhide HQ, if_pos hz]
        clear hz HQ
        go_wp2_with fail
        refine region_later (by kernel_rfl) (by kernel_rfl) ?_
        repeat (go_big_quiet_step ((go_at_call 54; exact unhide C _)))
        refine wpQuiet_nil ?_
        intro w7 hw7
        obtain ⟨i, hw8⟩ := hw7
        subst hw8
        have HW := hide (unhide HBI i)
        clear c1 d1 e0 e1 e2 e3 x0 x1 x2 x3 C HHI HBI
        generalize i.val = w7 at HW ⊢
        go_wp2_with fail
        go_ret
        exact ⟨ret_int (unhide HA).symm, unhide HW⟩
      · have hz1 : (n == 0) = false := by simpa using hz
        have HA : Hid (conV cs v 0 = conV (cs.drop (k + 1)) v (k + 1)) := by show _ = _; rw [unhide hq, unhide HQ, if_neg hz]
        clear hz HQ
        go_wp2_with fail
        refine region_later (by kernel_rfl) (by kernel_rfl) ?_
        repeat (go_big_quiet_step ((go_at_call 54; exact unhide C _)))
        refine wpQuiet_nil ?_
        intro w7 hw7
        obtain ⟨i, hw8⟩ := hw7
        subst hw8
        have HW := hide (unhide HHI i)
        clear c1 d1 e0 e1 e2 e3 x0 x1 x2 x3 C HHI HBI
        generalize i.val = w7 at HW ⊢
        go_wp2_with fail
        go_roundw
        case rel => exact ⟨k + 1, by omega, by go_num, HA, unhide HW⟩
        case measure => simp [intOf]; omega
    · have hk2 : k = cs.length := by omega
      have HA : Hid (conV cs v 0 = -1) := by show _ = _; rw [unhide hq, hk2, List.drop_length]; rfl
      have HW := hide bW
      clear bW hb hk2
      go_wp2_with fail
      go_ret
      exact ⟨ret_int (unhide HA).symm, unhide HW⟩
end
end Go.Proofs.YtbfkcfhkccicoaaDoor

namespace Go.Proofs.YtbfkcfhkccicoaaDoor
open Go.RowKit Go.Maps

/-- What a Put leaves of the rest. -/
structure RStep (W W' : World) (r r' : RP) : Prop where
  turn : Turn r.own W W'
  own : ∀ k, r'.own k → r.own k ∨ W.heap.size ≤ k
  rb : r'.rb = r.rb
  base : r'.base = r.base
theorem RStep.refl (W : World) (r : RP) : RStep W W r r := ⟨Turn.refl _ _, fun _ h => .inl h, rfl, rfl⟩
theorem RStep.trans {W W' W'' : World} {r r' r'' : RP} (h : RStep W W' r r') (k : RStep W' W'' r' r'') : RStep W W'' r r'' :=
  ⟨h.turn.trans k.turn (fun i hi e => (h.own i e).elim id (fun e => absurd e (by omega))), fun i e => (k.own i e).elim (h.own i) (fun e => .inr (Nat.le_trans h.turn.size e)), k.rb.trans h.rb, k.base.trans h.base⟩
theorem RStep.before {U W W' : World} {r r' : RP} (b : Below U.heap.size U W) (h : RStep W W' r r') : RStep U W' r r' :=
  ⟨(Turn.of_below b).trans h.turn (fun _ _ e => e), fun k e => (h.own k e).elim .inl (fun e => .inr (Nat.le_trans b.size e)), h.rb, h.base⟩
theorem RStep.after {U W W' : World} {r r' : RP} (h : RStep W W' r r') (b : Below W'.heap.size W' U) : RStep W U r r' :=
  ⟨h.turn.trans (Turn.of_below (S := r.own) b) (fun _ _ e => e), h.own, h.rb, h.base⟩

section
variable {W : World} {r : RP} {xs : List ByteArray} {cs : List V}

set_option maxRecDepth 100000 in
set_option maxHeartbeats 4000000 in
theorem rstext_any (h : RSto W r xs cs) (n : Int) :
    Calls Tryd.prog 26 #[.pointer (some ⟨r.rb, 0, none⟩), .int .i64 n] W fun e w' => e = .returned (.tuple #[.string (Sym.textAt xs n), .bool (Sym.isNum xs n)]) ∧ w' = W := by
  have c0 := h.c0
  have hl := h.tl
  by_cases h0 : n < 0
  · have e1 : Sym.isNum xs n = false := by simp [Sym.isNum]; omega
    rw [Sym.textAt_out e1, e1]
    clear h
    go_enter Tryd.func26, Tryd.ntmps26
    go_wp2_with fail
    go_ret2
    exact ⟨rfl, rfl⟩
  · by_cases h1 : (xs.length : Int) ≤ n
    · have e1 : Sym.isNum xs n = false := by simp [Sym.isNum]; omega
      rw [Sym.textAt_out e1, e1]
      clear h
      go_enter Tryd.func26, Tryd.ntmps26
      go_wp2_with fail
      go_ret2
      exact ⟨rfl, rfl⟩
    · obtain ⟨k, rfl⟩ : ∃ k : Nat, n = (k : Int) := ⟨n.toNat, by omega⟩
      have hk : k < xs.length := by omega
      have e1 : Sym.isNum xs (k : Int) = true := by simp [Sym.isNum]; omega
      have e2 : Sym.textAt xs (k : Int) = xs[k] := by simp [Sym.textAt, hk]
      obtain ⟨g, ha, hc⟩ := h.trow.reads k xs[k] (by simp [hk])
      rw [e1, e2]
      rw [ha] at c0
      have hk2 : (k : Int) < (xs.length : Int) := by omega
      clear e1 e2 h ha
      generalize xs[k] = t at hc ⊢
      go_enter Tryd.func26, Tryd.ntmps26
      go_wp2_with fail
      go_ret2
      exact ⟨rfl, rfl⟩

theorem rsput_left {w2 : World} {s : ByteArray} {a' : Option Addr} {cap' : Nat} (h : RSto W r xs cs) (hrow : Sym.Row w2 r.base a' cap' (xs ++ [s])) (hgrow : (W.alloc (.cells #[.string s] 9)).grownBy w2 (r.ta.map Addr.block))
    (hat : (a' = r.ta ∧ r.ta ≠ none) ∨ (a'.map Addr.block = some (W.alloc (.cells #[.string s] 9)).heap.size ∧ (W.alloc (.cells #[.string s] 9)).grownBy w2 none)) (hl : xs.length < 16384) :
    w2.heap[r.rb]? = some (.cells #[.slice r.ta xs.length r.tc, .slice r.ca cs.length r.cc] 29 (0, 0)) ∧
    RSto (w2.setCell ⟨r.rb, 0, none⟩ (.slice a' (xs.length + 1) cap')) { r with ta := a', tc := cap' } (xs ++ [s]) cs ∧ RStep W (w2.setCell ⟨r.rb, 0, none⟩ (.slice a' (xs.length + 1) cap')) r { r with ta := a', tc := cap' } := by
  have t1 : Turn (fun k => r.ta.map Addr.block = some k) W w2 := (Turn.alloc (S := fun k => r.ta.map Addr.block = some k) W (.cells #[.string s] 9)).trans (Turn.of_grownBy hgrow (fun k e => e)) (fun _ _ e => e)
  have t2 : Turn (fun k => k = r.rb) w2 (w2.setCell ⟨r.rb, 0, none⟩ (.slice a' (xs.length + 1) cap')) := Turn.setCell _ _ _ rfl
  have hz : (W.alloc (.cells #[.string s] 9)).heap.size = W.heap.size + 1 := by simp
  have hrb := h.lt
  have hbox : w2.heap[r.rb]? = some (.cells #[.slice r.ta xs.length r.tc, .slice r.ca cs.length r.cc] 29 (0, 0)) := (t1.block _ hrb (fun e => (h.ta_ne _ e).1 rfl)).trans h.box
  have hcrow := crow_stays h.crow t1 (fun k e e2 => (h.ta_ne k e2).2 e)
  have hne : ∀ k, a'.map Addr.block = some k → k ≠ r.rb := fun k e => by
    rcases hat with ⟨rfl, _⟩ | ⟨e2, _⟩
    · exact (h.ta_ne k e).1
    · rw [e2] at e; simp only [Option.some.injEq] at e; omega
  refine ⟨hbox, ⟨?_, hrow.stays t2 hne, crow_stays hcrow t2 (fun k e => h.ca_ne k e), by simp; omega, h.cl, h.low⟩, (t1.mono (fun k e => .inr (.inl e))).trans (t2.mono (S' := r.own) (fun k e => .inl e)) (fun _ _ e => e), ?_, rfl, rfl⟩
  · show (w2.setCell ⟨r.rb, 0, none⟩ _).heap[r.rb]? = _
    rw [setCell_eq_setRow w2 r.rb 0 _ _ _ _ hbox]
    have := setRow_heap w2 r.rb _ (#[.slice a' (xs.length + 1) cap', .slice r.ca cs.length r.cc]) 29 (0, 0) hbox
    simpa using this
  · rintro k (e | e | e)
    · exact .inl (.inl e)
    · rcases hat with ⟨e2, _⟩ | ⟨e2, _⟩
      · exact .inl (.inr (.inl (by rw [← e2]; exact e)))
      · refine .inr ?_
        have e' : a'.map Addr.block = some k := e
        rw [e2] at e'; simp only [Option.some.injEq] at e'; omega
    · exact .inl (.inr (.inr e))

set_option maxRecDepth 100000 in
set_option maxHeartbeats 4000000 in
theorem rsput_any (h : RSto W r xs cs) (hb : r.base ≤ W.heap.size) (s : ByteArray) :
    Calls Tryd.prog 34 #[.pointer (some ⟨r.rb, 0, none⟩), .string s] W fun e w' => e = .returned (.tuple #[.int .i64 (Sym.ansN xs s : Int), .int .i64 (Sym.ansE xs s)]) ∧ ∃ r', RSto w' r' (Sym.put xs s) cs ∧ RStep W w' r r' := by
  have c0 := h.c0
  have hl := h.tl
  have hget := rsget_any h s
  have HR := hide h
  unfold Sym.ansN Sym.ansE Sym.put
  cases ht : Sym.there xs s with
  | true =>
    rw [ht] at hget
    have HG := hide hget
    clear hget h ht
    go_enter Tryd.func34, Tryd.ntmps34
    go_wp2_with (go_at_call 53; refine (unhide HG).mono ?_; rintro e w' ⟨rfl, rfl⟩)
    go_ret2
    exact ⟨rfl, r, unhide HR, RStep.refl _ _⟩
  | false =>
    rw [ht] at hget
    have HG := hide hget
    clear hget ht
    by_cases hf : 16384 ≤ xs.length
    · obtain he : xs.length = 16384 := by omega
      have hi : (16384 : Int) ≤ (xs.length : Int) := by omega
      simp only [hf, if_true, Bool.false_eq_true, if_false]
      clear h he
      go_enter Tryd.func34, Tryd.ntmps34
      go_wp2_with (go_at_call 53; refine (unhide HG).mono ?_; rintro e w' ⟨rfl, rfl⟩)
      go_ret2
      exact ⟨rfl, r, unhide HR, RStep.refl _ _⟩
    · have hl2 : xs.length < 16384 := by omega
      have hi : (xs.length : Int) < 16384 := by omega
      simp only [hf, Bool.false_eq_true, if_false]
      have hrow1 : Sym.Row (W.alloc (.cells #[.string s] 9)) r.base r.ta r.tc xs := h.trow.stays (S := fun _ => False) (Turn.alloc _ _) (fun _ _ e => e)
      have hbs : r.base ≤ (W.alloc (.cells #[.string s] 9)).heap.size := by simp; omega
      have HROW := hide hrow1
      clear h hrow1
      go_enter Tryd.func34, Tryd.ntmps34
      go_wp2_with (first
        | (go_at_call 53; refine (unhide HG).mono ?_; rintro e w' ⟨rfl, rfl⟩)
        | (at_builtin; refine Sym.wpList_append_text _ rfl _ _ rfl r.base r.ta r.tc xs s ⟨_, 0, none⟩ rfl (unhide HROW) rfl (by simp [Addr.add]) (by omega) hbs ?_; intro a' cap' w2 hrow hgrow hat
           have hbx := (rsput_left (unhide HR) hrow hgrow hat hl2).1
           have hc2 : w2.cell? ⟨r.rb, 0, none⟩ = some (.slice r.ta xs.length r.tc) := by simp [World.cell?, hbx]
           have hf2 : w2.frozen? ⟨r.rb, 0, none⟩ = false := by simp [World.frozen?, hbx]
           have hc3 := (rsput_left (unhide HR) hrow hgrow hat hl2).2.1.c0
           simp only [List.length_append, List.length_cons, List.length_nil, Nat.zero_add] at hc3
           clear hbx))
      go_ret2
      exact ⟨by simp, _, (rsput_left (unhide HR) hrow hgrow hat hl2).2⟩
end
end Go.Proofs.YtbfkcfhkccicoaaDoor

namespace Go.Proofs.YtbfkcfhkccicoaaDoor
open Go.RowKit Go.Maps

/-- What the document's store knows. -/
structure RS where
  xs : List ByteArray
  cs : List V

structure RA where
  S : RS
  err : Int
def rargsTo (f : Nat → RS → (Int × Int) × RS) : Nat → RS → RA
  | 0, S => ⟨S, 0⟩
  | k + 1, S =>
    let r := rargsTo f k S
    if r.err = 0 then ⟨(f k r.S).2, (f k r.S).1.2⟩ else r
theorem rargsTo_succ (f : Nat → RS → (Int × Int) × RS) (k : Nat) (S : RS) : rargsTo f (k + 1) S = if (rargsTo f k S).err = 0 then ⟨(f k (rargsTo f k S).S).2, (f k (rargsTo f k S).S).1.2⟩ else rargsTo f k S := rfl
theorem rargsTo_stop {f : Nat → RS → (Int × Int) × RS} {k : Nat} {S : RS} (h : ¬ (rargsTo f k S).err = 0) : ∀ m, k ≤ m → rargsTo f m S = rargsTo f k S := fun m hm => by
  induction m with
  | zero => obtain rfl : k = 0 := by omega
            rfl
  | succ m ih =>
    by_cases e : k = m + 1
    · subst e; rfl
    · have := ih (by omega)
      rw [rargsTo_succ, this, if_neg h]

/-- A Con whose Args were put. -/
def rconV (v : V) (S : RS) : (Int × Int) × RS :=
  if 0 ≤ conV S.cs v 0 then ((conV S.cs v 0, 0), S)
  else if 16384 ≤ S.cs.length then ((0, 18), S)
  else (((S.cs.length : Int), 0), ⟨S.xs, S.cs ++ [v]⟩)

namespace V
def rputV : V → RS → (Int × Int) × RS
  | none, S => ((0, 0), S)
  | mk k n s a l c f, S =>
    if k = 1 then ((n, 0), S)
    else if k = 2 then (((Sym.ansN S.xs s : Int), Sym.ansE S.xs s), ⟨Sym.put S.xs s, S.cs⟩)
    else
      if (rargsTo (fun i S => (f i).rputV S) l S).err = 0 then rconV (mk k n s a l c f) (rargsTo (fun i S => (f i).rputV S) l S).S else ((0, (rargsTo (fun i S => (f i).rputV S) l S).err), (rargsTo (fun i S => (f i).rputV S) l S).S)
theorem rputV_num {v : V} (h : v.kind = 1) (S : RS) : v.rputV S = ((v.num, 0), S) := by
  cases v with
  | none => cases h
  | mk k n s a l c f => exact if_pos h
theorem rputV_sym {v : V} (h : v.kind = 2) (S : RS) : v.rputV S = (((Sym.ansN S.xs v.str : Int), Sym.ansE S.xs v.str), ⟨Sym.put S.xs v.str, S.cs⟩) := by
  cases v with
  | none => cases h
  | mk k n s a l c f =>
    have h2 : k = 2 := h
    show (if k = 1 then _ else if k = 2 then _ else _) = _
    rw [if_neg (by omega), if_pos h2]; rfl
theorem rputV_con {v : V} (h : v.kind = 3) (S : RS) : v.rputV S = if (rargsTo (fun i S => (v.kid i).rputV S) v.len S).err = 0 then rconV v (rargsTo (fun i S => (v.kid i).rputV S) v.len S).S
    else ((0, (rargsTo (fun i S => (v.kid i).rputV S) v.len S).err), (rargsTo (fun i S => (v.kid i).rputV S) v.len S).S) := by
  cases v with
  | none => cases h
  | mk k n s a l c f =>
    have h2 : k = 3 := h
    show (if k = 1 then _ else if k = 2 then _ else _) = _
    rw [if_neg (by omega), if_neg (by omega)]; rfl
end V

/-- All Cons lie in memory below B. -/
def RS.Lie (B : Nat) (W : World) (S : RS) : Prop := ∀ i, i < S.cs.length → (nth S.cs i).At B W

/-- What a Put is asked. -/
def RPutC (v : V) : Prop := ∀ (B : Nat) (W : World) (r : RP) (S : RS) (d : Nat), v.At B W → B ≤ r.base → r.base ≤ W.heap.size → RSto W r S.xs S.cs → S.Lie B W → v.may d = true →
  Calls Tryd.prog 24 #[.pointer (some ⟨r.rb, 0, none⟩), v.val] W fun e w' => e = .returned (.tuple #[.int .i64 (v.rputV S).1.1, .int .i64 (v.rputV S).1.2]) ∧
    ∃ r', RSto w' r' (v.rputV S).2.xs (v.rputV S).2.cs ∧ RStep W w' r r' ∧ (v.rputV S).2.Lie B w'

theorem RStep.below {W w' : World} {r r' : RP} {xs : List ByteArray} {cs : List V} {B : Nat} (h : RStep W w' r r') (hr : RSto W r xs cs) (hB : B ≤ r.base) (hW : r.base ≤ W.heap.size) : Below B W w' :=
  h.turn.below (by omega) (fun k e => by have := (hr.own_lt k e).1; omega)
theorem RS.Lie.below {B : Nat} {W w' : World} {S : RS} (h : S.Lie B W) (b : Below B W w') : S.Lie B w' := fun i hi => (h i hi).below b

set_option maxRecDepth 100000 in
set_option maxHeartbeats 4000000 in
theorem rput_num (v : V) (hk : v.kind = 1) : RPutC v := by
  intro B W r S d hat hB hW h hl hm
  have H := hide (V.rputV_num hk S)
  have HX : Hid (∀ o, ∃ r', RSto (W.alloc o) r' S.xs S.cs ∧ RStep W (W.alloc o) r r' ∧ S.Lie B (W.alloc o)) := fun o => ⟨r, h.later (below_box W o), (RStep.refl W r).after (below_box W o), hl.below ((below_box W o).mono (by omega))⟩
  have H1 : Hid ((v.rputV S).1 = (v.num, 0)) := by show _ = _; rw [unhide H]
  clear h hl hat hm
  go_enter Tryd.func24, Tryd.ntmps24
  go_wp2_with fail
  go_ret2
  refine ⟨ret_ii' (unhide H1), ?_⟩
  rw [unhide H]
  exact unhide HX _

set_option maxRecDepth 100000 in
set_option maxHeartbeats 4000000 in
theorem rput_sym (v : V) (hk : v.kind = 2) : RPutC v := by
  intro B W r S d hat hB hW h hl hm
  have H := hide (V.rputV_sym hk S)
  have H1 : Hid ((v.rputV S).1 = ((Sym.ansN S.xs v.str : Int), Sym.ansE S.xs v.str)) := by show _ = _; rw [unhide H]
  have hput : ∀ o, Calls Tryd.prog 34 #[.pointer (some ⟨r.rb, 0, none⟩), .string v.str] (W.alloc o).drew fun e w' => e = .returned (.tuple #[.int .i64 (Sym.ansN S.xs v.str : Int), .int .i64 (Sym.ansE S.xs v.str)]) ∧
      ∃ r', RSto w' r' (v.rputV S).2.xs (v.rputV S).2.cs ∧ RStep W w' r r' ∧ (v.rputV S).2.Lie B w' := fun o => by
    have b1 : Below W.heap.size W (W.alloc o).drew := (below_box W o).drew
    have h2 := h.later b1
    refine (rsput_any h2 (Nat.le_trans hW b1.size) v.str).mono ?_
    rintro e w' ⟨rfl, r', h3, s3⟩
    refine ⟨rfl, r', by rw [unhide H]; exact h3, s3.before b1, ?_⟩
    rw [unhide H]
    exact fun i hi => (hl i hi).below ((b1.mono (by omega)).trans (s3.below h2 hB (Nat.le_trans hW b1.size)))
  have HP := hide hput
  clear hput h hl hat hm
  go_enter Tryd.func24, Tryd.ntmps24
  go_wp2_with fail
  go_region_with (go_at_call 34; refine (unhide HP _).mono ?_; rintro e w' ⟨rfl, hw⟩)
  all_goals
    go_wp2_with fail
    go_ret2
    exact ⟨ret_ii' (unhide H1), hw⟩

/-- 'append' of one zero value, as a step of a region that leaves its order open. -/
theorem step_append_val {ops : Array Oper} {o : Oper} {a : Act} {w : World} {K : Act → World → Prop} {Q : Exit → Act → World → Prop} {E : Prop} (hgd : o.guard = none) (s x : Operand)
    (ho : o.op = .call { callee := .builtin .append, args := #[s, x], argTypes := #[22, 22] }) (base : Nat)
    (v : Value) (n : Nat) (xs : List Value) (hs : a.eval s = v) (hown : w.ownsRow base 32 4 v n xs) (ad : Addr) (c : Nat) (u : V) (hx : a.eval x = .slice (some ad) 1 c)
    (hc : ∀ j y, u.row[j]? = some y → w.cell? (ad.add j) = some y) (hbytes : (n + 1) * 56 ≤ 140737488355328) (hbase : base ≤ w.heap.size)
    (hK : ∀ v' w', w'.ownsRow base 32 4 v' (n + 1) (xs ++ u.row) → w.grownBy w' v.ownBlock → (v'.ownBlock = v.ownBlock ∨ v'.ownBlock = some w.heap.size) → K (a.put o.dst v') w') :
    if Region.wanted o (yielded ops a.tmps) = true then Oper.wp Tryd.prog o a w K Q else E := by
  have hw : Region.wanted o (yielded ops a.tmps) = true := by simp [Region.wanted, hgd]
  rw [if_pos hw]
  obtain ⟨i0, hi, hz0, hz1, hz2⟩ := info_parts infoVal
  obtain ⟨v', w', hr, h2, h3, _, h5⟩ := run_append_own_at (P := Tryd.prog) w base 22 o.type 32 i0 _ 4 56 Tryd.underlying22 hi hz0 hz1 hz2 rfl (by decide) v n _ hown ad 1 c u.row rfl hc
    (fun y hy => by
      simp only [V.row, List.mem_cons, List.not_mem_nil, or_false] at hy
      rcases hy with rfl | rfl | rfl | rfl <;> rfl) (by unfold maxLen; omega) hbytes hbase
  unfold Oper.wp execOp
  simp only [ho, resolve, invoke, builtin, Sem.run_bind, Sem.run_pure, Result.andThen_ok, List.map_toArray, List.map_cons, List.map_nil, hs, hx, hr]
  exact hK v' w' h2 h3 h5
end Go.Proofs.YtbfkcfhkccicoaaDoor

namespace Go.Proofs.YtbfkcfhkccicoaaDoor
open Go.RowKit Go.Maps

theorem ret_ie {x : (Int × Int) × RS} {a b : Int} {S : RS} (h : x = ((a, b), S)) : Ending.returned (.tuple #[.int .i64 a, .int .i64 b]) = .returned (.tuple #[.int .i64 x.1.1, .int .i64 x.1.2]) := by rw [h]

/-- Between two Args. -/
structure RL (W w1 wr : World) (B : Nat) (r r' : RP) (v : V) (S : RS) (k : Nat) : Prop where
  sto : RSto wr r' (rargsTo (fun i S => (v.kid i).rputV S) k S).S.xs (rargsTo (fun i S => (v.kid i).rputV S) k S).S.cs
  step : RStep w1 wr r r'
  lie : (rargsTo (fun i S => (v.kid i).rputV S) k S).S.Lie B wr
  ok : (rargsTo (fun i S => (v.kid i).rputV S) k S).err = 0
  bw : Below B W wr
  box : CellsAt wr W.heap.size 0 v
  base : r'.base = r.base
  big : r.base ≤ wr.heap.size
theorem conV_range (cs : List V) (v : V) : ∀ k, -1 ≤ conV cs v k ∧ conV cs v k < (k + cs.length : Nat) ∨ conV cs v k = -1 := by
  induction cs with
  | nil => intro k; exact .inr rfl
  | cons c r ih =>
    intro k
    unfold conV
    split
    · exact .inl ⟨by omega, by simp; omega⟩
    · rcases ih (k + 1) with h | h
      · exact .inl ⟨h.1, by simp at h ⊢; omega⟩
      · exact .inr h

theorem own_succ {w : World} {base : Nat} {e : TypeId} {size : Nat} {v : Value} {n : Nat} {xs : List Value} (h : w.ownsRow base e size v (n + 1) xs) : ∃ g cap, v = .slice (some ⟨g, 0, none⟩) (n + 1) cap := by
  rcases h.2 with ⟨_, h0⟩ | ⟨g, cap, cur, rfl, _⟩
  · omega
  · exact ⟨g, cap, rfl⟩
theorem cellsTo_snoc (cs : List V) (v : V) : cellsTo (nth (cs ++ [v])) (cs ++ [v]).length = cellsTo (nth cs) cs.length ++ v.row := by
  rw [List.length_append, List.length_singleton]
  show cellsTo (nth (cs ++ [v])) cs.length ++ _ = _
  have e1 : nth (cs ++ [v]) cs.length = v := by simp [nth, List.getD]
  rw [cellsTo_congr (vs := nth cs) cs.length (fun i hi => by simp [nth, List.getD, List.getElem?_append_left hi]), e1]
  rfl

section
variable {W3 X w5 F : World} {r : RP} {xs : List ByteArray} {cs : List V} {v : V} {g' cap' : Nat}

theorem rapp_ne (h : RSto W3 r xs cs) (bX : Below W3.heap.size W3 X) (a5 : (some g' : Option Nat) = r.ca.map Addr.block ∨ (some g' : Option Nat) = some X.heap.size) : g' ≠ r.rb := by
  rcases a5 with e | e
  · exact h.ca_ne g' e.symm
  · simp only [Option.some.injEq] at e
    have := h.lt
    have := bX.size
    omega
theorem rapp_box (h : RSto W3 r xs cs) (bX : Below W3.heap.size W3 X) (g5 : X.grownBy w5 (r.ca.map Addr.block)) :
    w5.heap[r.rb]? = some (.cells #[.slice r.ta xs.length r.tc, .slice r.ca cs.length r.cc] 29 (0, 0)) := by
  have h1 := h.lt
  rw [g5.block _ (Nat.lt_of_lt_of_le h1 bX.size) (fun e => h.ca_ne _ e.symm rfl), bX.block _ h1]
  exact h.box

/-- What the append and both stores leave. -/
theorem rapp (h : RSto W3 r xs cs) (bX : Below W3.heap.size W3 X) (g5 : X.grownBy w5 (r.ca.map Addr.block)) (a5 : (some g' : Option Nat) = r.ca.map Addr.block ∨ (some g' : Option Nat) = some X.heap.size) (hl : cs.length < 16384)
    (tF : Turn (fun k => k = g' ∨ k = r.rb) w5 F) (bF : F.heap[r.rb]? = some (.cells #[.slice r.ta xs.length r.tc, .slice (some ⟨g', 0, none⟩) (cs.length + 1) cap'] 29 (0, 0)))
    (oF : F.ownsRow r.base 32 4 (.slice (some ⟨g', 0, none⟩) (cs.length + 1) cap') (cs.length + 1) (cellsTo (nth cs) cs.length ++ v.row)) :
    RSto F { r with ca := some ⟨g', 0, none⟩, cc := cap' } xs (cs ++ [v]) ∧ RStep W3 F r { r with ca := some ⟨g', 0, none⟩, cc := cap' } := by
  have t1 : Turn (fun k => r.ca.map Addr.block = some k) W3 w5 := (Turn.of_below (S := fun k => r.ca.map Addr.block = some k) bX).trans (Turn.of_grownBy g5 (fun k e => e)) (fun _ _ e => e)
  have hgo : r.own g' ∨ W3.heap.size ≤ g' := by
    rcases a5 with e | e
    · exact .inl (.inr (.inr e.symm))
    · simp only [Option.some.injEq] at e
      have := bX.size
      exact .inr (by omega)
  have tt : Turn r.own W3 F := (t1.mono (fun k e => .inr (.inr e))).trans tF (fun k hk e => by
    rcases e with e | e
    · rw [e] at hk ⊢
      rcases hgo with g | g
      · exact g
      · omega
    · exact .inl e)
  refine ⟨⟨by simpa using bF, ?_, ?_, h.tl, by simp; omega, h.low⟩, tt, ?_, rfl, rfl⟩
  · have hr5 : Sym.Row w5 r.base r.ta r.tc xs := h.trow.stays t1 (fun k e e2 => (h.ta_ne k e).2 e2)
    refine hr5.stays tF (fun k e e2 => ?_)
    have h3 := h.ta_ne k e
    have h4 := (h.trow.lt k e).2
    rcases e2 with e2 | e2
    · subst e2
      rcases a5 with e5 | e5
      · exact h3.2 e5.symm
      · simp only [Option.some.injEq] at e5
        have := bX.size
        omega
    · exact h3.1 e2
  · rw [cellsTo_snoc]
    simpa using oF
  · rintro k (e | e | e)
    · exact .inl (.inl e)
    · exact .inl (.inr (.inl e))
    · have : g' = k := by simpa using e
      rw [← this]; exact hgo
end

theorem set_four (l : List Value) (n : Nat) (hn : l.length = n * 4) (v z : V) : ((((l ++ z.row).set (n * 4) (.int .i64 v.kind)).set (n * 4 + 1) (.int .i64 v.num)).set (n * 4 + 2) (.string v.str)).set (n * 4 + 3) (.slice v.addr v.len v.cap) = l ++ v.row := by
  rw [List.set_append_right _ _ (by omega), hn, Nat.sub_self, List.set_append_right _ _ (by omega), hn, List.set_append_right _ _ (by omega), hn, List.set_append_right _ _ (by omega), hn]
  rw [show n * 4 + 1 - n * 4 = 1 by omega, show n * 4 + 2 - n * 4 = 2 by omega, show n * 4 + 3 - n * 4 = 3 by omega]
  rfl
theorem own_four {w : World} {base g n cap : Nat} {l : List Value} {v z : V} (hn : l.length = n * 4) (h : w.ownsRow base 32 4 (.slice (some ⟨g, 0, none⟩) (n + 1) cap) (n + 1) (l ++ z.row)) :
    ((((w.setCell ⟨g, n * 4, none⟩ (.int .i64 v.kind)).setCell ⟨g, n * 4 + 1, none⟩ (.int .i64 v.num)).setCell ⟨g, n * 4 + 2, none⟩ (.string v.str)).setCell ⟨g, n * 4 + 3, none⟩ (.slice v.addr v.len v.cap)).ownsRow base 32 4 (.slice (some ⟨g, 0, none⟩) (n + 1) cap) (n + 1) (l ++ v.row) := by
  have := (World.ownsRow.stored (World.ownsRow.stored (World.ownsRow.stored (World.ownsRow.stored h (n * 4) (.int .i64 v.kind)).1 (n * 4 + 1) (.int .i64 v.num)).1 (n * 4 + 2) (.string v.str)).1 (n * 4 + 3) (.slice v.addr v.len v.cap)).1
  rw [set_four l n hn v z] at this
  exact this
theorem turn_fourAt (w : World) (g o : Nat) (q0 q1 q2 q3 : Value) : Turn (· = g) w ((((w.setCell ⟨g, o, none⟩ q0).setCell ⟨g, o + 1, none⟩ q1).setCell ⟨g, o + 2, none⟩ q2).setCell ⟨g, o + 3, none⟩ q3) :=
  (((Turn.setCell (S := (· = g)) w _ q0 rfl).trans (Turn.setCell (S := (· = g)) _ ⟨g, o + 1, none⟩ q1 rfl) (fun _ _ e => e)).trans (Turn.setCell (S := (· = g)) _ ⟨g, o + 2, none⟩ q2 rfl) (fun _ _ e => e)).trans (Turn.setCell (S := (· = g)) _ ⟨g, o + 3, none⟩ q3 rfl) (fun _ _ e => e)
theorem box_set {w : World} {g : Nat} {a b c : Value} {t : TypeId} (h : w.heap[g]? = some (.cells #[a, b] t (0, 0))) : (w.setCell ⟨g, 1, none⟩ c).heap[g]? = some (.cells #[a, c] t (0, 0)) := by
  rw [setCell_eq_setRow w g 1 _ _ _ _ h]
  have := setRow_heap w g _ #[a, c] t (0, 0) h
  simpa using this

section
variable {W3 X w5 : World} {r : RP} {xs : List ByteArray} {cs : List V} {v : V} {g' cap' : Nat}
/-- The element first, then the slice. -/
theorem rapp_a (h : RSto W3 r xs cs) (bX : Below W3.heap.size W3 X) (o5 : w5.ownsRow r.base 32 4 (.slice (some ⟨g', 0, none⟩) (cs.length + 1) cap') (cs.length + 1) (cellsTo (nth cs) cs.length ++ V.none.row)) (g5 : X.grownBy w5 (r.ca.map Addr.block)) (a5 : (some g' : Option Nat) = r.ca.map Addr.block ∨ (some g' : Option Nat) = some X.heap.size) (hl : cs.length < 16384) :
    RSto (((((w5.setCell ⟨g', cs.length * 4, none⟩ (.int .i64 v.kind)).setCell ⟨g', cs.length * 4 + 1, none⟩ (.int .i64 v.num)).setCell ⟨g', cs.length * 4 + 2, none⟩ (.string v.str)).setCell ⟨g', cs.length * 4 + 3, none⟩ (.slice v.addr v.len v.cap)).setCell ⟨r.rb, 1, none⟩ (.slice (some ⟨g', 0, none⟩) (cs.length + 1) cap')) { r with ca := some ⟨g', 0, none⟩, cc := cap' } xs (cs ++ [v]) ∧
    RStep W3 (((((w5.setCell ⟨g', cs.length * 4, none⟩ (.int .i64 v.kind)).setCell ⟨g', cs.length * 4 + 1, none⟩ (.int .i64 v.num)).setCell ⟨g', cs.length * 4 + 2, none⟩ (.string v.str)).setCell ⟨g', cs.length * 4 + 3, none⟩ (.slice v.addr v.len v.cap)).setCell ⟨r.rb, 1, none⟩ (.slice (some ⟨g', 0, none⟩) (cs.length + 1) cap')) r { r with ca := some ⟨g', 0, none⟩, cc := cap' } := by
  have hne := rapp_ne h bX a5
  have hb := rapp_box h bX g5
  have t4 := turn_fourAt w5 g' (cs.length * 4) (.int .i64 v.kind) (.int .i64 v.num) (.string v.str) (.slice v.addr v.len v.cap)
  have o4 := own_four (v := v) (cellsTo_len (nth cs) cs.length) o5
  have hb4 := (t4.block r.rb (Sym.lt_of_heap hb) (fun e => hne e.symm)).trans hb
  refine rapp h bX g5 a5 hl ((t4.mono (fun k e => .inl e)).trans (Turn.setCell (S := fun k => k = g' ∨ k = r.rb) _ _ _ (.inr rfl)) (fun _ _ e => e)) (box_set hb4) ?_
  exact ownsRow_turn o4 (Turn.setCell (S := fun k => k = r.rb) _ _ _ rfl) hne
/-- The slice first, then the element. -/
theorem rapp_b (h : RSto W3 r xs cs) (bX : Below W3.heap.size W3 X) (o5 : w5.ownsRow r.base 32 4 (.slice (some ⟨g', 0, none⟩) (cs.length + 1) cap') (cs.length + 1) (cellsTo (nth cs) cs.length ++ V.none.row)) (g5 : X.grownBy w5 (r.ca.map Addr.block)) (a5 : (some g' : Option Nat) = r.ca.map Addr.block ∨ (some g' : Option Nat) = some X.heap.size) (hl : cs.length < 16384) :
    RSto (((((w5.setCell ⟨r.rb, 1, none⟩ (.slice (some ⟨g', 0, none⟩) (cs.length + 1) cap')).setCell ⟨g', cs.length * 4, none⟩ (.int .i64 v.kind)).setCell ⟨g', cs.length * 4 + 1, none⟩ (.int .i64 v.num)).setCell ⟨g', cs.length * 4 + 2, none⟩ (.string v.str)).setCell ⟨g', cs.length * 4 + 3, none⟩ (.slice v.addr v.len v.cap)) { r with ca := some ⟨g', 0, none⟩, cc := cap' } xs (cs ++ [v]) ∧
    RStep W3 (((((w5.setCell ⟨r.rb, 1, none⟩ (.slice (some ⟨g', 0, none⟩) (cs.length + 1) cap')).setCell ⟨g', cs.length * 4, none⟩ (.int .i64 v.kind)).setCell ⟨g', cs.length * 4 + 1, none⟩ (.int .i64 v.num)).setCell ⟨g', cs.length * 4 + 2, none⟩ (.string v.str)).setCell ⟨g', cs.length * 4 + 3, none⟩ (.slice v.addr v.len v.cap)) r { r with ca := some ⟨g', 0, none⟩, cc := cap' } := by
  have hne := rapp_ne h bX a5
  have hb := rapp_box h bX g5
  have t1 : Turn (fun k => k = r.rb) w5 (w5.setCell ⟨r.rb, 1, none⟩ (.slice (some ⟨g', 0, none⟩) (cs.length + 1) cap')) := Turn.setCell _ _ _ rfl
  have t4 := turn_fourAt (w5.setCell ⟨r.rb, 1, none⟩ (.slice (some ⟨g', 0, none⟩) (cs.length + 1) cap')) g' (cs.length * 4) (.int .i64 v.kind) (.int .i64 v.num) (.string v.str) (.slice v.addr v.len v.cap)
  have hb1 : (w5.setCell ⟨r.rb, 1, none⟩ (.slice (some ⟨g', 0, none⟩) (cs.length + 1) cap')).heap[r.rb]? = _ := box_set (c := .slice (some ⟨g', 0, none⟩) (cs.length + 1) cap') hb
  have o4 := own_four (v := v) (cellsTo_len (nth cs) cs.length) (ownsRow_turn o5 t1 hne)
  exact rapp h bX g5 a5 hl ((t1.mono (fun k e => .inr e)).trans (t4.mono (fun k e => .inl e)) (fun _ _ e => e)) ((t4.block r.rb (Sym.lt_of_heap hb1) (fun e => hne e.symm)).trans hb1) o4
end

theorem lie_snoc {B : Nat} {F : World} {xs : List ByteArray} {cs : List V} {v : V} (h : ∀ i, i < cs.length → (nth cs i).At B F) (hv : v.At B F) : RS.Lie B F ⟨xs, cs ++ [v]⟩ := fun i hi => by
  have hi' : i < (cs ++ [v]).length := hi
  simp only [List.length_append, List.length_singleton] at hi'
  show (nth (cs ++ [v]) i).At B F
  by_cases e : i < cs.length
  · have : nth (cs ++ [v]) i = nth cs i := by simp [nth, List.getD, List.getElem?_append_left e]
    rw [this]; exact h i e
  · have e2 : i = cs.length := by omega
    subst e2
    have : nth (cs ++ [v]) cs.length = v := by simp [nth, List.getD]
    rw [this]; exact hv
/-- All that is asked behind the append. -/
theorem rapp_end {W w3 F : World} {B : Nat} {r r1 r2 : RP} {xs : List ByteArray} {cs : List V} {v : V} (hs1 : RSto w3 r1 xs cs) (st1 : RStep W w3 r r1) (l1 : RS.Lie B w3 ⟨xs, cs⟩) (hv : v.At B w3) (hB : B ≤ r.base) (hF : RSto F r2 xs (cs ++ [v]) ∧ RStep w3 F r1 r2) :
    ∃ r2, RSto F r2 xs (cs ++ [v]) ∧ RStep W F r r2 ∧ RS.Lie B F ⟨xs, cs ++ [v]⟩ := by
  have hb : Below B w3 F := hF.2.below hs1 (by rw [st1.base]; exact hB) (by have := (hs1.own_lt r1.rb (.inl rfl)).1; exact Nat.le_of_lt (Nat.lt_of_le_of_lt this hs1.lt))
  exact ⟨r2, hF.1, st1.trans hF.2, lie_snoc (fun i hi => (l1 i hi).below hb) (hv.below hb)⟩

theorem end_a {W w3 X w5 : World} {B rb g' cap' : Nat} {r r1 : RP} {xs : List ByteArray} {cs : List V} {v : V} (hrb : r1.rb = rb) (hs1 : RSto w3 r1 xs cs) (st1 : RStep W w3 r r1) (l1 : RS.Lie B w3 ⟨xs, cs⟩) (hv : v.At B w3) (hB : B ≤ r.base) (bX : Below w3.heap.size w3 X)
    (o5 : w5.ownsRow r1.base 32 4 (.slice (some ⟨g', 0, none⟩) (cs.length + 1) cap') (cs.length + 1) (cellsTo (nth cs) cs.length ++ V.none.row)) (g5 : X.grownBy w5 (r1.ca.map Addr.block)) (a5 : (some g' : Option Nat) = r1.ca.map Addr.block ∨ (some g' : Option Nat) = some X.heap.size) (hl : cs.length < 16384) :
    ∃ r2, RSto (((((w5.setCell ⟨g', cs.length * 4, none⟩ (.int .i64 v.kind)).setCell ⟨g', cs.length * 4 + 1, none⟩ (.int .i64 v.num)).setCell ⟨g', cs.length * 4 + 2, none⟩ (.string v.str)).setCell ⟨g', cs.length * 4 + 3, none⟩ (.slice v.addr v.len v.cap)).setCell ⟨rb, 1, none⟩ (.slice (some ⟨g', 0, none⟩) (cs.length + 1) cap')) r2 xs (cs ++ [v]) ∧ RStep W (((((w5.setCell ⟨g', cs.length * 4, none⟩ (.int .i64 v.kind)).setCell ⟨g', cs.length * 4 + 1, none⟩ (.int .i64 v.num)).setCell ⟨g', cs.length * 4 + 2, none⟩ (.string v.str)).setCell ⟨g', cs.length * 4 + 3, none⟩ (.slice v.addr v.len v.cap)).setCell ⟨rb, 1, none⟩ (.slice (some ⟨g', 0, none⟩) (cs.length + 1) cap')) r r2 ∧ RS.Lie B (((((w5.setCell ⟨g', cs.length * 4, none⟩ (.int .i64 v.kind)).setCell ⟨g', cs.length * 4 + 1, none⟩ (.int .i64 v.num)).setCell ⟨g', cs.length * 4 + 2, none⟩ (.string v.str)).setCell ⟨g', cs.length * 4 + 3, none⟩ (.slice v.addr v.len v.cap)).setCell ⟨rb, 1, none⟩ (.slice (some ⟨g', 0, none⟩) (cs.length + 1) cap')) ⟨xs, cs ++ [v]⟩ := by
  subst hrb
  exact rapp_end hs1 st1 l1 hv hB (rapp_a hs1 bX o5 g5 a5 hl)
theorem end_b {W w3 X w5 : World} {B rb g' cap' : Nat} {r r1 : RP} {xs : List ByteArray} {cs : List V} {v : V} (hrb : r1.rb = rb) (hs1 : RSto w3 r1 xs cs) (st1 : RStep W w3 r r1) (l1 : RS.Lie B w3 ⟨xs, cs⟩) (hv : v.At B w3) (hB : B ≤ r.base) (bX : Below w3.heap.size w3 X)
    (o5 : w5.ownsRow r1.base 32 4 (.slice (some ⟨g', 0, none⟩) (cs.length + 1) cap') (cs.length + 1) (cellsTo (nth cs) cs.length ++ V.none.row)) (g5 : X.grownBy w5 (r1.ca.map Addr.block)) (a5 : (some g' : Option Nat) = r1.ca.map Addr.block ∨ (some g' : Option Nat) = some X.heap.size) (hl : cs.length < 16384) :
    ∃ r2, RSto (((((w5.setCell ⟨rb, 1, none⟩ (.slice (some ⟨g', 0, none⟩) (cs.length + 1) cap')).setCell ⟨g', cs.length * 4, none⟩ (.int .i64 v.kind)).setCell ⟨g', cs.length * 4 + 1, none⟩ (.int .i64 v.num)).setCell ⟨g', cs.length * 4 + 2, none⟩ (.string v.str)).setCell ⟨g', cs.length * 4 + 3, none⟩ (.slice v.addr v.len v.cap)) r2 xs (cs ++ [v]) ∧ RStep W (((((w5.setCell ⟨rb, 1, none⟩ (.slice (some ⟨g', 0, none⟩) (cs.length + 1) cap')).setCell ⟨g', cs.length * 4, none⟩ (.int .i64 v.kind)).setCell ⟨g', cs.length * 4 + 1, none⟩ (.int .i64 v.num)).setCell ⟨g', cs.length * 4 + 2, none⟩ (.string v.str)).setCell ⟨g', cs.length * 4 + 3, none⟩ (.slice v.addr v.len v.cap)) r r2 ∧ RS.Lie B (((((w5.setCell ⟨rb, 1, none⟩ (.slice (some ⟨g', 0, none⟩) (cs.length + 1) cap')).setCell ⟨g', cs.length * 4, none⟩ (.int .i64 v.kind)).setCell ⟨g', cs.length * 4 + 1, none⟩ (.int .i64 v.num)).setCell ⟨g', cs.length * 4 + 2, none⟩ (.string v.str)).setCell ⟨g', cs.length * 4 + 3, none⟩ (.slice v.addr v.len v.cap)) ⟨xs, cs ++ [v]⟩ := by
  subst hrb
  exact rapp_end hs1 st1 l1 hv hB (rapp_b hs1 bX o5 g5 a5 hl)

/-- The zero value at the end of the new row. -/
theorem app_zero {w5 : World} {base g' n cap' : Nat} {l : List Value} (hn : l.length = n * 4) (o5 : w5.ownsRow base 32 4 (.slice (some ⟨g', 0, none⟩) (n + 1) cap') (n + 1) (l ++ V.none.row)) :
    w5.cell? ⟨g', n * 4, none⟩ = some (.int .i64 0) ∧ w5.cell? ⟨g', n * 4 + 1, none⟩ = some (.int .i64 0) ∧ w5.cell? ⟨g', n * 4 + 2, none⟩ = some (.string ⟨#[]⟩) ∧ w5.cell? ⟨g', n * 4 + 3, none⟩ = some (.slice none 0 0) ∧ ∀ o, w5.frozen? ⟨g', o, none⟩ = false := by
  have hc : ∀ q, q < 4 → w5.cell? ⟨g', n * 4 + q, none⟩ = V.none.row[q]? := fun q hq => by
    rw [World.ownsRow.cellAt o5 (n * 4 + q) (by omega), List.getElem?_append_right (by omega), hn, show n * 4 + q - n * 4 = q by omega]
  exact ⟨hc 0 (by omega), hc 1 (by omega), hc 2 (by omega), hc 3 (by omega), fun o => World.ownsRow.frozenAt o5 o⟩
theorem cell_other {w5 : World} {g' rb o q : Nat} {x : Value} (h : g' ≠ rb) : (w5.setCell ⟨rb, q, none⟩ x).cell? ⟨g', o, none⟩ = w5.cell? ⟨g', o, none⟩ := by
  simp only [World.cell?]
  rw [Below.heap_setCell _ _ _ _ h]

set_option maxRecDepth 100000 in
set_option maxHeartbeats 8000000 in
theorem rput_con (v : V) (ih : ∀ i, i < v.len → RPutC (v.kid i)) (hk : v.kind = 3) : RPutC v := by
  intro B W r S d hat hB hW h hl hm
  have H := hide (V.rputV_con hk S)
  have k1 : (v.kind == 1) = false := by simp [hk]
  have k2 : (v.kind == 2) = false := by simp [hk]
  have HMK : Hid (∀ i, i < v.len → (v.kid i).may (d - 1) = true) := fun i hi => may_kids hm hk i hi
  have hvl := hat.flat.l
  have HAT := hide hat
  have IH := hide ih
  have b1 := below_box W v.obj
  have hw1 : W.heap.size < (W.alloc v.obj).heap.size := by simp
  have HL0 : Hid (∃ r', RL W (W.alloc v.obj) (W.alloc v.obj) B r r' v S 0) := ⟨r, h.later b1, RStep.refl _ _, hl.below (b1.mono (by omega)), rfl, b1.mono (by omega), boxed W v, rfl, by omega⟩
  have HOWN : Hid (¬ r.own W.heap.size) := fun e => by have := (h.own_lt _ e).2; omega
  have HST := hide h
  have HB1 := hide b1
  clear h hl hat hm hk ih b1
  go_enter Tryd.func24, Tryd.ntmps24
  go_wp2_with fail
  generalize hW1 : W.alloc v.obj = w1 at HL0 hw1 HB1 ⊢
  clear hW1
  go_loopw [6] (fun i wr => ∃ k : Nat, k ≤ v.len ∧ i = .int .i64 k ∧ Hid (∃ r', RL W w1 wr B r r' v S k)) (fun i _ => v.len - (intOf i).toNat)
  case atStart => exact ⟨0, Nat.zero_le _, rfl, HL0⟩
  case round =>
    obtain ⟨k, hkl, rfl, hR⟩ := hrel
    clear HL0
    obtain ⟨r', hr⟩ := unhide hR
    have HRL := hide hr
    obtain ⟨x0, x1, x2, x3⟩ := hr.box.z
    by_cases hlt : k < v.len
    · obtain ⟨b, o, ha, hb, hc⟩ := ((unhide HAT).below hr.bw).flat.at_ k hlt
      rw [ha] at x3
      have c0 := hc.c0
      have c1 := hc.c1
      have c2 := hc.c2
      have c3 := hc.c3
      obtain ⟨q, hq⟩ : ∃ q, q = (v.kid k).rputV (rargsTo (fun i S => (v.kid i).rputV S) k S).S := ⟨_, rfl⟩
      have HC : Hid (Calls Tryd.prog 24 #[.pointer (some ⟨r.rb, 0, none⟩), (v.kid k).val] wr fun e w' => e = .returned (.tuple #[.int .i64 q.1.1, .int .i64 q.1.2]) ∧ ∃ r'', RSto w' r'' q.2.xs q.2.cs ∧ RStep wr w' r' r'' ∧ q.2.Lie B w') := by
        have := unhide IH k hlt B wr r' (rargsTo (fun i S => (v.kid i).rputV S) k S).S (d - 1) (((unhide HAT).kid k hlt).below hr.bw) (by rw [hr.base]; exact hB) (by rw [hr.base]; exact hr.big) hr.sto hr.lie (unhide HMK k hlt)
        rw [← hq, hr.step.rb] at this
        exact this
      have HQ := hide hq
      clear hR hr hc ha hq
      go_wp2_with fail
      refine (unhide HC).mono ?_
      rintro e w2 ⟨rfl, r'', s2, st2, l2⟩
      have HN : Hid (rargsTo (fun i S => (v.kid i).rputV S) (k + 1) S = ⟨q.2, q.1.2⟩) := by show _ = _; rw [rargsTo_succ, if_pos (unhide HRL).ok, ← unhide HQ]
      have HS2 := hide s2
      have HT2 := hide st2
      have HL2 := hide l2
      obtain ⟨e, he⟩ : ∃ e, e = q.1.2 := ⟨_, rfl⟩
      have HE := hide he
      rw [← he]
      clear c0 c1 c2 c3 x0 x1 x2 x3 HC s2 st2 l2 he
      by_cases hz : e = 0
      · have hz1 : (e != 0) = false := by simp [hz]
        have HRN : Hid (RL W w1 w2 B r r'' v S (k + 1)) := by
          have hr := unhide HRL
          have hst := unhide HT2
          have hb2 : Below B wr w2 := hst.below hr.sto (by rw [hr.base]; exact hB) (by rw [hr.base]; exact hr.big)
          refine ⟨by rw [unhide HN]; exact unhide HS2, hr.step.trans hst, by rw [unhide HN]; exact unhide HL2, by rw [unhide HN]; show q.1.2 = 0; rw [← unhide HE]; exact hz, hr.bw.trans hb2, ?_, hst.base.trans hr.base, Nat.le_trans hr.big hst.turn.size⟩
          refine hr.box.stays fun p u hp hu => ?_
          have hno : ¬ r'.own W.heap.size := fun e => (hr.step.own _ e).elim (unhide HOWN) (fun e => by omega)
          have : w2.cell? p = wr.cell? p := by
            simp only [World.cell?]
            rw [hst.turn.block _ (World.block_lt_of_cell? wr p hu) (by rw [hp]; exact hno)]
          exact this.trans hu
        clear hz
        go_wp2_with fail
        go_roundw
        case rel => exact ⟨k + 1, by omega, by go_num, ⟨r'', unhide HRN⟩⟩
        case measure => simp [intOf]; omega
      · have hz1 : (e != 0) = true := by simpa using hz
        have HA : Hid (v.rputV S = ((0, e), q.2)) := by
          have hne : ¬ (rargsTo (fun i S => (v.kid i).rputV S) (k + 1) S).err = 0 := by rw [unhide HN]; show ¬ q.1.2 = 0; rw [← unhide HE]; exact hz
          have hst := rargsTo_stop hne v.len (by omega)
          show _ = _
          rw [unhide H, hst, if_neg hne, unhide HN]
          show ((0, q.1.2), q.2) = _
          rw [← unhide HE]
        clear hz
        go_wp2_with fail
        go_ret2
        refine ⟨ret_ie (unhide HA), r'', ?_, ?_, ?_⟩
        · rw [unhide HA]; exact unhide HS2
        · exact ((unhide HRL).step.trans (unhide HT2)).before (unhide HB1)
        · rw [unhide HA]; exact unhide HL2
    · have hk2 : k = v.len := by omega
      subst hk2
      have HA : Hid (v.rputV S = rconV v (rargsTo (fun i S => (v.kid i).rputV S) v.len S).S) := by show _ = _; rw [unhide H, if_pos hr.ok]
      obtain ⟨T, hT⟩ : ∃ T, T = (rargsTo (fun i S => (v.kid i).rputV S) v.len S).S := ⟨_, rfl⟩
      rw [← hT] at HA
      have hsto : RSto wr r' T.xs T.cs := by rw [hT]; exact hr.sto
      have hlie : T.Lie B wr := by rw [hT]; exact hr.lie
      have hBs : B ≤ wr.heap.size := Nat.le_trans hB hr.big
      have HC : Hid (Calls Tryd.prog 35 #[.pointer (some ⟨r.rb, 0, none⟩), v.val] wr fun e w' => e = .returned (.int .i64 (conV T.cs v 0)) ∧ Below wr.heap.size wr w') := by
        have := con_any hsto B hBs hlie v ((unhide HAT).below hr.bw)
        rw [hr.step.rb] at this
        exact this
      have HSTO := hide hsto
      have HLIE := hide hlie
      clear hR hr hsto hlie hT
      go_wp2_with fail
      refine (unhide HC).mono ?_
      rintro e w3 ⟨rfl, b3⟩
      have HF : Hid (∃ r'', RSto w3 r'' T.xs T.cs ∧ RStep W w3 r r'' ∧ T.Lie B w3) := ⟨r', (unhide HSTO).later b3, (((unhide HRL).step).before (unhide HB1)).after b3, (unhide HLIE).below (b3.mono hBs)⟩
      obtain ⟨n, hn⟩ : ∃ n, n = conV T.cs v 0 := ⟨_, rfl⟩
      have HNR := hide (conV_range T.cs v 0)
      rw [← hn] at HNR
      have HN := hide hn
      rw [← hn]
      have HB3 := hide b3
      have HBX3 : Hid (CellsAt w3 W.heap.size 0 v) := (unhide HRL).box.below b3 (World.block_lt_of_cell? _ _ (unhide HRL).box.c0)
      have hw3 : W.heap.size < w3.heap.size := World.block_lt_of_cell? _ _ (unhide HBX3).c0
      clear x0 x1 x2 x3 HC b3 hn
      by_cases hn0 : 0 ≤ n
      · have HV : Hid (v.rputV S = ((n, 0), T)) := by show _ = _; rw [unhide HA, rconV, if_pos (by rw [← unhide HN]; exact hn0), ← unhide HN]
        go_wp2_with fail
        go_ret2
        refine ⟨ret_ie (unhide HV), ?_⟩
        rw [unhide HV]; exact unhide HF
      · have s1 := ((unhide HSTO).later (unhide HB3)).c1
        rw [(unhide HRL).step.rb] at s1
        have hcl := (unhide HSTO).cl
        by_cases hfull : 16384 ≤ T.cs.length
        · have HV : Hid (v.rputV S = ((0, 18), T)) := by show _ = _; rw [unhide HA, rconV, if_neg (by rw [← unhide HN]; exact hn0), if_pos hfull]
          have hi : (16384 : Int) ≤ (T.cs.length : Int) := by omega
          go_wp2_with fail
          go_ret2
          refine ⟨ret_ie (unhide HV), ?_⟩
          rw [unhide HV]; exact unhide HF
        · have HV : Hid (v.rputV S = (((T.cs.length : Int), 0), ⟨T.xs, T.cs ++ [v]⟩)) := by show _ = _; rw [unhide HA, rconV, if_neg (by rw [← unhide HN]; exact hn0), if_neg hfull]
          have hi : (T.cs.length : Int) < 16384 := by omega
          clear s1
          obtain ⟨r1, hs1, st1, l1⟩ := unhide HF
          have hrb : r1.rb = r.rb := st1.rb
          have s1 : w3.cell? ⟨r.rb, 1, none⟩ = some (.slice r1.ca T.cs.length r1.cc) := by rw [← hrb]; exact hs1.c1
          have hlt1 : r.rb < w3.heap.size := by rw [← hrb]; exact hs1.lt
          have t1 : (w3.alloc (.cells #[.int .i64 0, .int .i64 0, .string ⟨#[]⟩, .slice none 0 0] 32)).drew.cell? ⟨r.rb, 1, none⟩ = some (.slice r1.ca T.cs.length r1.cc) := (World.cell?_alloc_lt w3 _ _ hlt1).trans s1
          have u1 : w3.drew.cell? ⟨r.rb, 1, none⟩ = some (.slice r1.ca T.cs.length r1.cc) := s1
          obtain ⟨y0, y1, y2, y3⟩ := (unhide HBX3).z
          have p0 : w3.drew.cell? ⟨W.heap.size, 0, none⟩ = some (.int .i64 v.kind) := y0
          have p1 : w3.drew.cell? ⟨W.heap.size, 1, none⟩ = some (.int .i64 v.num) := y1
          have p2 : w3.drew.cell? ⟨W.heap.size, 2, none⟩ = some (.string v.str) := y2
          have p3 : w3.drew.cell? ⟨W.heap.size, 3, none⟩ = some (.slice v.addr v.len v.cap) := y3
          have q0 : (w3.alloc (.cells #[.int .i64 0, .int .i64 0, .string ⟨#[]⟩, .slice none 0 0] 32)).drew.cell? ⟨W.heap.size, 0, none⟩ = some (.int .i64 v.kind) := (World.cell?_alloc_lt w3 _ _ hw3).trans y0
          have q1 : (w3.alloc (.cells #[.int .i64 0, .int .i64 0, .string ⟨#[]⟩, .slice none 0 0] 32)).drew.cell? ⟨W.heap.size, 1, none⟩ = some (.int .i64 v.num) := (World.cell?_alloc_lt w3 _ _ hw3).trans y1
          have q2 : (w3.alloc (.cells #[.int .i64 0, .int .i64 0, .string ⟨#[]⟩, .slice none 0 0] 32)).drew.cell? ⟨W.heap.size, 2, none⟩ = some (.string v.str) := (World.cell?_alloc_lt w3 _ _ hw3).trans y2
          have q3 : (w3.alloc (.cells #[.int .i64 0, .int .i64 0, .string ⟨#[]⟩, .slice none 0 0] 32)).drew.cell? ⟨W.heap.size, 3, none⟩ = some (.slice v.addr v.len v.cap) := (World.cell?_alloc_lt w3 _ _ hw3).trans y3
          have HBX : Hid (Below w3.heap.size w3 (w3.alloc (.cells #[.int .i64 0, .int .i64 0, .string ⟨#[]⟩, .slice none 0 0] 32)).drew) := (below_box w3 _).drew
          have HOW : Hid ((w3.alloc (.cells #[.int .i64 0, .int .i64 0, .string ⟨#[]⟩, .slice none 0 0] 32)).drew.ownsRow r1.base 32 4 (.slice r1.ca T.cs.length r1.cc) T.cs.length (cellsTo (nth T.cs) T.cs.length)) := ownsRow_below hs1.crow (unhide HBX)
          have HNEW : Hid (∀ j y, V.none.row[j]? = some y → (w3.alloc (.cells #[.int .i64 0, .int .i64 0, .string ⟨#[]⟩, .slice none 0 0] 32)).drew.cell? ((⟨w3.heap.size, 0, none⟩ : Addr).add j) = some y) := fun j y h => row_new w3 V.none j y h
          have hbase : r1.base ≤ (w3.alloc (.cells #[.int .i64 0, .int .i64 0, .string ⟨#[]⟩, .slice none 0 0] 32)).drew.heap.size := Nat.le_trans (by have := (hs1.own_lt r1.rb (.inl rfl)).1; exact Nat.le_of_lt (Nat.lt_of_le_of_lt this hs1.lt)) (unhide HBX).size
          have hix : (T.cs.length : Int) < (T.cs.length : Int) + 1 := by omega
          have HRB := hide hrb
          clear hrb
          have HS1 := hide hs1
          have HT1 := hide st1
          have HL1 := hide l1
          have HV3 : Hid (v.At B w3) := ((unhide HAT).below (unhide HRL).bw).below ((unhide HB3).mono hBs)
          clear HF hs1 st1 l1
          go_wp2_with fail
          go_cut [] from 58 to 68 (fun w => ∃ r2, RSto w r2 T.xs (T.cs ++ [v]) ∧ RStep W w r r2 ∧ RS.Lie B w ⟨T.xs, T.cs ++ [v]⟩)
          case first =>
            go_region_law (refine step_append_val rfl (.tmp 61) (.tmp 64) rfl r1.base (.slice r1.ca T.cs.length r1.cc) T.cs.length (cellsTo (nth T.cs) T.cs.length) (by first | (simp [Act.eval]; done) | simp [Act.eval, Act.put]) (unhide HOW) ⟨w3.heap.size, 0, none⟩ 1 V.none (by first | (simp [Act.eval]; done) | simp [Act.eval, Act.put]) (unhide HNEW) (by omega) hbase ?_; intro v' w5 o5 g5 a5; obtain ⟨g', cap', ev⟩ := own_succ o5; subst ev; rw [Sym.own_slice] at g5 a5; rw [Sym.own_slice] at a5; have hzz := app_zero (cellsTo_len (nth T.cs) T.cs.length) o5; obtain ⟨z0, z1, z2, z3, zf⟩ := hzz; have hbx := rapp_box (unhide HS1) (unhide HBX) g5; rw [unhide HRB] at hbx; have hne := rapp_ne (unhide HS1) (unhide HBX) a5; rw [unhide HRB] at hne; have bb : w5.cell? ⟨r.rb, 1, none⟩ = some (.slice r1.ca T.cs.length r1.cc) := (by simp [World.cell?, hbx]); have bf : ∀ o, w5.frozen? ⟨r.rb, o, none⟩ = false := (fun o => by simp [World.frozen?, hbx]); have hne2 : r.rb ≠ g' := hne.symm; clear hbx)
            all_goals go_wp2_with fail
            all_goals go_meet
            all_goals have b5 : (some g' : Option Nat) = r1.ca.map Addr.block ∨ (some g' : Option Nat) = some _ := a5
            all_goals have hl16 : T.cs.length < 16384 := by omega
            all_goals first
              | with_reducible exact end_a (unhide HRB) (unhide HS1) (unhide HT1) (unhide HL1) (unhide HV3) hB (unhide HBX) o5 g5 b5 hl16
              | with_reducible exact end_b (unhide HRB) (unhide HS1) (unhide HT1) (unhide HL1) (unhide HV3) hB (unhide HBX) o5 g5 b5 hl16
          case rest =>
            obtain ⟨r2, hs2, st2, l2⟩ := hcut
            have v1 : wc.cell? ⟨r.rb, 1, none⟩ = some (.slice r2.ca (T.cs.length + 1) r2.cc) := by
              have := hs2.c1
              rw [st2.rb, List.length_append, List.length_singleton] at this
              exact this
            have HF2 : Hid (∃ r'', RSto wc r'' T.xs (T.cs ++ [v]) ∧ RStep W wc r r'' ∧ RS.Lie B wc ⟨T.xs, T.cs ++ [v]⟩) := ⟨r2, hs2, st2, l2⟩
            clear hs2 st2 l2 s1 t1 u1 y0 y1 y2 y3 p0 p1 p2 p3 q0 q1 q2 q3 HOW HNEW
            go_wp2_with fail
            go_ret2
            refine ⟨?_, ?_⟩
            · rw [unhide HV]
              simp
            · rw [unhide HV]; exact unhide HF2
end Go.Proofs.YtbfkcfhkccicoaaDoor

namespace Go.Proofs.YtbfkcfhkccicoaaDoor
open Go.RowKit Go.Maps

theorem rput_all : ∀ v : V, RPutC v := by
  refine V.ind fun v ih B W r S d hat hB hW h hl hm => ?_
  rcases kinds_of hm with hk | hk | hk
  · exact rput_num v hk B W r S d hat hB hW h hl hm
  · exact rput_sym v hk B W r S d hat hB hW h hl hm
  · exact rput_con v ih hk B W r S d hat hB hW h hl hm

/-- What Put answers. -/
def rputAll (v : V) (S : RS) : (Int × Int) × RS := if v.right then v.rputV S else ((0, 1), S)

set_option maxRecDepth 100000 in
set_option maxHeartbeats 4000000 in
theorem rsPut_any (v : V) (B : Nat) (W : World) (r : RP) (S : RS) (hat : v.At B W) (hB : B ≤ r.base) (hW : r.base ≤ W.heap.size) (h : RSto W r S.xs S.cs) (hl : S.Lie B W) :
    Calls Tryd.prog 9 #[.pointer (some ⟨r.rb, 0, none⟩), v.val] W fun e w' => e = .returned (.tuple #[.int .i64 (rputAll v S).1.1, .int .i64 (rputAll v S).1.2]) ∧
      ∃ r', RSto w' r' (rputAll v S).2.xs (rputAll v S).2.cs ∧ RStep W w' r r' ∧ (rputAll v S).2.Lie B w' := by
  have b1 := below_box W v.obj
  have hr := rright_any v B (W.alloc v.obj) (hat.below (b1.mono (by omega))) (by simp; omega)
  have HX := hide (boxed W v)
  have HR := hide hr
  have HAT := hide hat
  have HS := hide h
  have HL := hide hl
  have hsz : (W.alloc v.obj).heap.size = W.heap.size + 1 := by simp
  obtain ⟨x0, x1, x2, x3⟩ := (boxed W v).z
  have HB1 := hide b1
  have hWB : B ≤ W.heap.size := by omega
  clear h hl hat hr b1
  generalize hw : W.alloc v.obj = w1 at *
  cases hv : v.right with
  | true =>
    have HA : Hid (rputAll v S = v.rputV S) := by show _ = _; rw [rputAll, hv]; rfl
    have HM := hide (right_may hv)
    rw [hv] at HR
    clear hv
    go_enter Tryd.func9, Tryd.ntmps9
    go_wp2_with fail
    clear hw
    refine (unhide HR).mono ?_
    rintro e w2 ⟨rfl, b2⟩
    have hbx2 : CellsAt w2 W.heap.size 0 v := (unhide HX).below b2 (by omega)
    obtain ⟨y0, y1, y2, y3⟩ := hbx2.z
    have b3 : Below W.heap.size W w2 := (unhide HB1).trans (b2.mono (by omega))
    have HC := hide (rput_all v B w2 r S 32 ((unhide HAT).below (b3.mono hWB)) hB (Nat.le_trans hW b3.size) ((unhide HS).later b3) ((unhide HL).below (b3.mono hWB)) (unhide HM))
    have HB3 := hide b3
    clear x0 x1 x2 x3 hbx2 b2 b3 HR
    go_wp2_with fail
    refine (unhide HC).mono ?_
    rintro e w4 ⟨rfl, r', s4, st4, l4⟩
    have HF : Hid (∃ r', RSto w4 r' (rputAll v S).2.xs (rputAll v S).2.cs ∧ RStep W w4 r r' ∧ (rputAll v S).2.Lie B w4) := by rw [unhide HA]; exact ⟨r', s4, st4.before (unhide HB3), l4⟩
    clear y0 y1 y2 y3 s4 st4 l4 HC
    go_wp2_with fail
    go_ret2
    exact ⟨ret_ie (S := (v.rputV S).2) (by rw [unhide HA]), unhide HF⟩
  | false =>
    have HA : Hid (rputAll v S = ((0, 1), S)) := by show _ = _; rw [rputAll, hv]; rfl
    rw [hv] at HR
    clear hv
    go_enter Tryd.func9, Tryd.ntmps9
    go_wp2_with fail
    clear hw
    refine (unhide HR).mono ?_
    rintro e w2 ⟨rfl, b2⟩
    have b3 : Below W.heap.size W w2 := (unhide HB1).trans (b2.mono (by omega))
    have HF : Hid (∃ r', RSto w2 r' (rputAll v S).2.xs (rputAll v S).2.cs ∧ RStep W w2 r r' ∧ (rputAll v S).2.Lie B w2) := by rw [unhide HA]; exact ⟨r, (unhide HS).later b3, (RStep.refl W r).after b3, (unhide HL).below (b3.mono hWB)⟩
    clear x0 x1 x2 x3 b2 b3 HR
    go_wp2_with fail
    go_ret2
    exact ⟨ret_ie (unhide HA), unhide HF⟩

/-- What Get answers. -/
def rgetAll (v : V) (S : RS) : Int × Bool :=
  if v.right then (if v.kind = 1 then (v.num, true) else if v.kind = 2 then ((Sym.num S.xs v.str : Int), Sym.there S.xs v.str) else (max (conV S.cs v 0) 0, decide (0 ≤ conV S.cs v 0))) else (0, false)
theorem ret_ib2 {x : Int × Bool} {a : Int} {b : Bool} (h : x = (a, b)) : Ending.returned (.tuple #[.int .i64 a, .bool b]) = .returned (.tuple #[.int .i64 x.1, .bool x.2]) := by rw [h]



/-- What Back answers. -/
def rbackV (S : RS) (kind n : Int) : V × Bool :=
  if kind = 1 then (bare 1 n ⟨#[]⟩, true)
  else if kind = 2 then (if Sym.isNum S.xs n = true then (bare 2 0 (Sym.textAt S.xs n), true) else (.none, false))
  else if kind = 3 then (if 0 ≤ n ∧ n < (S.cs.length : Int) then (nth S.cs n.toNat, true) else (.none, false))
  else (.none, false)

set_option maxRecDepth 100000 in
set_option maxHeartbeats 4000000 in
theorem rsBack_any (W : World) (r : RP) (S : RS) (h : RSto W r S.xs S.cs) (kind n : Int) :
    Calls Tryd.prog 13 #[.pointer (some ⟨r.rb, 0, none⟩), .int .i64 kind, .int .i64 n] W fun e w' => e = .returned (.tuple #[(rbackV S kind n).1.val, .bool (rbackV S kind n).2]) ∧ Below W.heap.size W w' := by
  have b1 := below_box W (.cells #[.int .i64 0, .int .i64 0, .string ⟨#[]⟩, .slice none 0 0] 32)
  have h1 := h.later b1
  have c1 := h1.c1
  have hcl := h.cl
  have HS := hide h1
  clear h h1
  by_cases k1 : kind = 1
  · subst k1
    go_enter Tryd.func13, Tryd.ntmps13
    go_wp2_with fail
    refine bodyPost_ret (v := .tuple #[.agg #[.int .i64 1, .int .i64 n, .string ⟨#[]⟩, .slice none 0 0], .bool true]) (by simp [results, Tryd.results13, go_sem]) rfl ?_
    exact ⟨rfl, below_box W _⟩
  · by_cases k2 : kind = 2
    · subst k2
      have HC := hide (rstext_any (unhide HS) n)
      cases hi : Sym.isNum S.xs n with
      | true =>
        have HA : Hid (rbackV S 2 n = (bare 2 0 (Sym.textAt S.xs n), true)) := by show _ = _; simp [rbackV, hi]
        rw [hi] at HC
        generalize Sym.textAt S.xs n = t at HC HA
        clear k1 hi
        go_enter Tryd.func13, Tryd.ntmps13
        go_wp2_with fail
        refine (unhide HC).mono ?_
        rintro e w' ⟨rfl, rfl⟩
        go_wp2_with fail
        refine bodyPost_ret (v := .tuple #[.agg #[.int .i64 2, .int .i64 0, .string t, .slice none 0 0], .bool true]) (by simp [results, Tryd.results13, go_sem]) rfl ?_
        rw [unhide HA]
        exact ⟨rfl, below_box W _⟩
      | false =>
        have HA : Hid (rbackV S 2 n = (.none, false)) := by show _ = _; simp [rbackV, hi]
        rw [hi] at HC
        generalize Sym.textAt S.xs n = t at HC
        clear k1 hi
        go_enter Tryd.func13, Tryd.ntmps13
        go_wp2_with fail
        refine (unhide HC).mono ?_
        rintro e w' ⟨rfl, rfl⟩
        go_wp2_with fail
        refine bodyPost_ret (v := .tuple #[.agg #[.int .i64 0, .int .i64 0, .string ⟨#[]⟩, .slice none 0 0], .bool false]) (by simp [results, Tryd.results13, go_sem]) rfl ?_
        rw [unhide HA]
        exact ⟨rfl, below_box W _⟩
    · by_cases k3 : kind = 3
      · subst k3
        clear k1 k2
        by_cases hn : 0 ≤ n ∧ n < (S.cs.length : Int)
        · have HA : Hid (rbackV S 3 n = (nth S.cs n.toNat, true)) := by show _ = _; simp [rbackV, hn]
          obtain ⟨g, hg, _, hc⟩ := (unhide HS).con_at (i := n.toNat) (by omega)
          rw [hg] at c1
          have e0 := hc.c0
          have e1 := hc.c1
          have e2 := hc.c2
          have e3 := hc.c3
          obtain ⟨hn0, hn1⟩ := hn
          clear hg hc
          go_enter Tryd.func13, Tryd.ntmps13
          go_wp2_with fail
          refine bodyPost_ret (v := .tuple #[(nth S.cs n.toNat).val, .bool true]) (by simp [results, Tryd.results13, go_sem, V.val]) rfl ?_
          rw [unhide HA]
          exact ⟨rfl, below_box W _⟩
        · have HA : Hid (rbackV S 3 n = (.none, false)) := by show _ = _; unfold rbackV; rw [if_neg (by decide), if_neg (by decide), if_pos rfl, if_neg hn]
          by_cases hn0 : 0 ≤ n
          · have hn1 : ¬ n < (S.cs.length : Int) := fun e => hn ⟨hn0, e⟩
            clear hn
            go_enter Tryd.func13, Tryd.ntmps13
            go_wp2_with fail
            refine bodyPost_ret (v := .tuple #[.agg #[.int .i64 0, .int .i64 0, .string ⟨#[]⟩, .slice none 0 0], .bool false]) (by simp [results, Tryd.results13, go_sem]) rfl ?_
            rw [unhide HA]
            exact ⟨rfl, below_box W _⟩
          · clear hn
            go_enter Tryd.func13, Tryd.ntmps13
            go_wp2_with fail
            refine bodyPost_ret (v := .tuple #[.agg #[.int .i64 0, .int .i64 0, .string ⟨#[]⟩, .slice none 0 0], .bool false]) (by simp [results, Tryd.results13, go_sem]) rfl ?_
            rw [unhide HA]
            exact ⟨rfl, below_box W _⟩
      · have HA : Hid (rbackV S kind n = (.none, false)) := by show _ = _; simp [rbackV, k1, k2, k3]
        have m1 : (kind == 1) = false := by simpa using k1
        have m2 : (kind == 2) = false := by simpa using k2
        have m3 : (kind == 3) = false := by simpa using k3
        clear k1 k2 k3
        go_enter Tryd.func13, Tryd.ntmps13
        go_wp2_with fail
        refine bodyPost_ret (v := .tuple #[.agg #[.int .i64 0, .int .i64 0, .string ⟨#[]⟩, .slice none 0 0], .bool false]) (by simp [results, Tryd.results13, go_sem]) rfl ?_
        rw [unhide HA]
        exact ⟨rfl, below_box W _⟩
end Go.Proofs.YtbfkcfhkccicoaaDoor

namespace Go.Proofs.YtbfkcfhkccicoaaDoor
open Go.RowKit

theorem conV_found (cs : List V) (v : V) : ∀ k, (∃ j, j < cs.length ∧ conV cs v k = ((k + j : Nat) : Int) ∧ (nth cs j).std v = 0) ∨ (conV cs v k = -1 ∧ ∀ j, j < cs.length → (nth cs j).std v ≠ 0) := by
  induction cs with
  | nil => intro k; exact .inr ⟨rfl, fun j hj => absurd hj (Nat.not_lt_zero j)⟩
  | cons c r ih =>
    intro k
    unfold conV
    by_cases h : c.std v = 0
    · rw [if_pos h]
      exact .inl ⟨0, by simp, by simp, h⟩
    · rw [if_neg h]
      rcases ih (k + 1) with ⟨j, hj, e, h2⟩ | ⟨e, h2⟩
      · exact .inl ⟨j + 1, by simpa using hj, by rw [e]; congr 1; omega, h2⟩
      · refine .inr ⟨e, fun j hj => ?_⟩
        cases j with
        | zero => exact h
        | succ j => exact h2 j (by simpa using hj)

/-- What is like a value that stands there stands there under the same number. -/
theorem isIn_ord {S : SS} : ∀ (u v : V) (d d' : Nat) (m : Int), u.may d = true → v.may d' = true → u.IsIn S m → u.ord v = 0 → v.IsIn S m := by
  refine V.ind fun u ih v d d' m hu hv hin ho => ?_
  obtain ⟨ek, en, es, el, ekid⟩ := (ord_zero u v).1 ho
  rcases kinds_of hu with hk | hk | hk
  · rw [isIn_num hk] at hin
    rw [isIn_num (ek ▸ hk), hin, en]
  · rw [isIn_sym hk] at hin
    rw [isIn_sym (ek ▸ hk), ← es]
    exact hin
  · have hk' : v.kind = 3 := ek ▸ hk
    rw [isIn_con hk] at hin
    rw [isIn_con hk']
    obtain ⟨j, w, nums, e, h1, h2, h3⟩ := hin
    refine ⟨j, w, nums, e, ?_, by rw [← es]; exact h2, fun i hi => ih i (by omega) (v.kid i) (d - 1) (d' - 1) _ (may_kids hu hk i (by omega)) (may_kids hv hk' i hi) (h3 i (by omega)) (ekid i (by omega))⟩
    rw [h1]
    congr 1
    refine list_of fun q hq => ?_
    simp only [Nd.at0, nodeAt]
    split
    · rfl
    · split
      · omega
      · split
        · by_cases c : q - 2 < u.len
          · rw [if_pos c, if_pos (by omega)]
            exact ((ord_zero _ _).1 (ekid _ c)).1
          · rw [if_neg c, if_neg (by omega)]
        · by_cases c : q - 10 < u.len
          · rw [if_pos c, if_pos (by omega)]
          · rw [if_neg c, if_neg (by omega)]

/-- Both stores know the same. -/
structure Agree (S : SS) (R : RS) : Prop where
  xs : R.xs = S.xs
  len : R.cs.length = S.ns.length
  at_ : ∀ j, j < R.cs.length → (nth R.cs j).IsIn S j ∧ (nth R.cs j).kind = 3 ∧ ∃ d, (nth R.cs j).may d = true
  ok : S.Ok
  dis : S.Dis

/-- A value that stands there is the document's under that number. -/
theorem Agree.con {S : SS} {R : RS} (h : Agree S R) {v : V} {d : Nat} (hm : v.may d = true) (hk : v.kind = 3) {m : Nat} (hin : v.IsIn S (m : Int)) : conV R.cs v 0 = (m : Int) := by
  have hml : m < R.cs.length := by
    rw [isIn_con hk] at hin
    obtain ⟨j, w, nums, e, h1, _⟩ := hin
    have := (List.getElem?_eq_some_iff.1 h1).1
    rw [h.len]; omega
  obtain ⟨hi, hki, di, hmi⟩ := h.at_ m hml
  have hz : (nth R.cs m).std v = 0 := by
    rw [std_ord _ _ di d hmi hm]
    exact (isIn_same h.dis _ _ di d _ _ hmi hm (hki.trans hk.symm) hi hin).1 rfl
  rcases conV_found R.cs v 0 with ⟨j, hj, e, h2⟩ | ⟨_, h2⟩
  · obtain ⟨hij, hkj, dj, hmj⟩ := h.at_ j hj
    rw [std_ord _ _ dj d hmj hm] at h2
    have := (isIn_same h.dis _ _ dj d _ _ hmj hm (hkj.trans hk.symm) hij hin).2 h2
    rw [e]; omega
  · exact absurd hz (h2 m hml)
theorem Agree.con_in {S : SS} {R : RS} (h : Agree S R) {v : V} {d : Nat} (hm : v.may d = true) (hc : 0 ≤ conV R.cs v 0) : v.IsIn S (conV R.cs v 0) := by
  rcases conV_found R.cs v 0 with ⟨j, hj, e, h2⟩ | ⟨e, _⟩
  · obtain ⟨hij, hkj, dj, hmj⟩ := h.at_ j hj
    rw [std_ord _ _ dj d hmj hm] at h2
    have := isIn_ord _ v dj d _ hmj hm hij h2
    rw [e, Nat.zero_add]; exact this
  · omega
theorem Agree.con_or {S : SS} {R : RS} (_h : Agree S R) (v : V) : (∃ m : Nat, conV R.cs v 0 = (m : Int)) ∨ conV R.cs v 0 = -1 := by
  rcases conV_found R.cs v 0 with ⟨j, _, e, _⟩ | ⟨e, _⟩
  · exact .inl ⟨_, e⟩
  · exact .inr e

/-- The node of a value whose Args stand there is found just if the value stands there. -/
theorem find_of {S : SS} (dis : S.Dis) {v : V} {d : Nat} (hm : v.may d = true) (hk : v.kind = 3) {nums : Nat → Int} (hkid : ∀ i, i < v.len → (v.kid i).IsIn S (nums i)) {m : Int} (hin : v.IsIn S m) : findV S v.str (nodeAt v nums v.len) = (m, true) := by
  rw [isIn_con hk] at hin
  obtain ⟨j, w, nums', rfl, h1, h2, h3⟩ := hin
  have hnn : ∀ i, i < v.len → nums' i = nums i := fun i hi => by
    have := (isIn_same dis (v.kid i) (v.kid i) (d - 1) (d - 1) _ _ (may_kids hm hk i hi) (may_kids hm hk i hi) rfl (h3 i hi) (hkid i hi)).2 (by
      have := ord_neg (v.kid i) (v.kid i); omega)
    exact this
  rw [nodeAt_congr v hnn] at h1
  have ht : Sym.there S.ws v.str = true := by
    cases e : Sym.there S.ws v.str with
    | true => rfl
    | false =>
      exfalso
      unfold Sym.there at e
      cases hp : Sym.place S.ws v.str 0 with
      | none => exact Sym.place_none S.ws v.str 0 hp (List.mem_of_getElem? h2)
      | some _ => rw [hp] at e; cases e
  have hw : Sym.num S.ws v.str = w := nodup_at dis.ws (Sym.num_at ht).1 h2
  have hmem : ((nodeAt v nums v.len).at0 (w : Int)).list ∈ S.ns := List.mem_of_getElem? h1
  unfold findV
  rw [if_pos ht, hw]
  unfold nThere nNum
  rw [if_pos hmem, decide_eq_true hmem]
  have := nodup_at dis.ns (nIdx_at hmem).1 h1
  rw [this]
theorem find_in {S : SS} (ok : S.Ok) {v : V} (hk : v.kind = 3) {nums : Nat → Int} (hkid : ∀ i, i < v.len → (v.kid i).IsIn S (nums i)) (hf : (findV S v.str (nodeAt v nums v.len)).2 = true) : v.IsIn S (findV S v.str (nodeAt v nums v.len)).1 := by
  have hp : putNodeV S v.str (nodeAt v nums v.len) = (((findV S v.str (nodeAt v nums v.len)).1, 0), S) := if_pos hf
  obtain ⟨j, w, h1, h2, h3⟩ := putNode_in (word := v.str) (n := nodeAt v nums v.len) ok (by rw [hp])
  rw [hp] at h1 h2 h3
  rw [isIn_con hk]
  exact ⟨j, w, nums, h1, h2, h3, hkid⟩

theorem nth_snoc (cs : List V) (v : V) : nth (cs ++ [v]) cs.length = v := by simp [nth, List.getD]
theorem nth_old {cs : List V} {v : V} {j : Nat} (hj : j < cs.length) : nth (cs ++ [v]) j = nth cs j := by simp [nth, List.getD, List.getElem?_append_left hj]

theorem agree_node {S : SS} {R : RS} (h : Agree S R) {v : V} {d : Nat} (hm : v.may d = true) (hk : v.kind = 3) {nums : Nat → Int} (hkid : ∀ i, i < v.len → (v.kid i).IsIn S (nums i)) (hok : (putNodeV S v.str (nodeAt v nums v.len)).2.Ok) :
    (putNodeV S v.str (nodeAt v nums v.len)).1 = (rconV v R).1 ∧ Agree (putNodeV S v.str (nodeAt v nums v.len)).2 (rconV v R).2 := by
  cases hf : (findV S v.str (nodeAt v nums v.len)).2 with
  | true =>
    have hp : putNodeV S v.str (nodeAt v nums v.len) = (((findV S v.str (nodeAt v nums v.len)).1, 0), S) := if_pos hf
    have hin := find_in h.ok hk hkid hf
    obtain ⟨m, e⟩ : ∃ m : Nat, (findV S v.str (nodeAt v nums v.len)).1 = (m : Int) := by
      have := hin
      rw [isIn_con hk] at this
      obtain ⟨j, _, _, e, _⟩ := this
      exact ⟨j, e⟩
    rw [e] at hin hp
    have hc := h.con hm hk hin
    have hr : rconV v R = ((conV R.cs v 0, 0), R) := if_pos (by rw [hc]; omega)
    rw [hp, hr, hc]
    exact ⟨rfl, h⟩
  | false =>
    have hn : ¬ 0 ≤ conV R.cs v 0 := fun hc => by
      have hin := h.con_in hm hc
      rw [find_of h.dis hm hk hkid hin] at hf
      cases hf
    by_cases hl : 16384 ≤ S.ns.length
    · have hp : putNodeV S v.str (nodeAt v nums v.len) = ((0, 18), S) := by unfold putNodeV; rw [if_neg (by simp [hf]), if_pos hl]
      have hr : rconV v R = ((0, 18), R) := by unfold rconV; rw [if_neg hn, if_pos (by rw [h.len]; exact hl)]
      rw [hp, hr]
      exact ⟨rfl, h⟩
    · have hp : putNodeV S v.str (nodeAt v nums v.len) = (((S.ns.length : Int), 0), ⟨S.xs, Sym.put S.ws v.str, S.ns ++ [((nodeAt v nums v.len).at0 (Sym.ansN S.ws v.str)).list]⟩) := by unfold putNodeV; rw [if_neg (by simp [hf]), if_neg hl]
      have hr : rconV v R = (((R.cs.length : Int), 0), ⟨R.xs, R.cs ++ [v]⟩) := by unfold rconV; rw [if_neg hn, if_neg (by rw [h.len]; exact hl)]
      have hle := putNode_le S v.str (nodeAt v nums v.len)
      have hdis := putNode_dis (word := v.str) (n := nodeAt v nums v.len) h.ok h.dis
      obtain ⟨j, w, h1, h2, h3⟩ := putNode_in (word := v.str) (n := nodeAt v nums v.len) h.ok (by rw [hp])
      have hnew : v.IsIn (putNodeV S v.str (nodeAt v nums v.len)).2 (S.ns.length : Int) := by
        rw [isIn_con hk]
        refine ⟨j, w, nums, ?_, h2, h3, fun i hi => IsIn.more hle _ (d - 1) _ (may_kids hm hk i hi) (hkid i hi)⟩
        rw [hp] at h1
        exact h1
      refine ⟨by rw [hp, hr, h.len], ?_⟩
      have hxs : (putNodeV S v.str (nodeAt v nums v.len)).2.xs = S.xs := by rw [hp]
      have hns : (putNodeV S v.str (nodeAt v nums v.len)).2.ns.length = S.ns.length + 1 := by rw [hp]; simp
      rw [hr]
      refine ⟨by rw [hxs]; exact h.xs, by rw [hns]; simp [h.len], fun i hi => ?_, hok, hdis⟩
      have hi' : i < (R.cs ++ [v]).length := hi
      simp only [List.length_append, List.length_singleton] at hi'
      show (nth (R.cs ++ [v]) i).IsIn _ _ ∧ (nth (R.cs ++ [v]) i).kind = 3 ∧ ∃ d, (nth (R.cs ++ [v]) i).may d = true
      by_cases e : i < R.cs.length
      · rw [nth_old e]
        obtain ⟨g1, g2, g3, g4⟩ := h.at_ i e
        exact ⟨IsIn.more hle _ g3 _ g4 g1, g2, g3, g4⟩
      · have e2 : i = R.cs.length := by omega
        subst e2
        rw [nth_snoc, h.len]
        exact ⟨hnew, hk, d, hm⟩

theorem agree_put : ∀ (v : V) (d : Nat) (S : SS) (R : RS), v.may d = true → Agree S R → (v.putV S).1 = (v.rputV R).1 ∧ Agree (v.putV S).2 (v.rputV R).2 := by
  refine V.ind fun v ih d S R hm h => ?_
  have hokall := putV_ok_all v d hm S h.ok
  rcases kinds_of hm with hk | hk | hk
  · rw [V.putV_num hk, V.rputV_num hk]; exact ⟨rfl, h⟩
  · rw [V.putV_sym hk, V.rputV_sym hk, h.xs]
    refine ⟨rfl, rfl, h.len, fun j hj => ?_, ⟨h.ok.words, h.ok.heads⟩, ⟨sym_put_nodup h.dis.xs, h.dis.ws, h.dis.ns⟩⟩
    obtain ⟨g1, g2, g3, g4⟩ := h.at_ j hj
    exact ⟨IsIn.more (T := ⟨Sym.put S.xs v.str, S.ws, S.ns⟩) ⟨Sym.put_prefix _ _, List.prefix_rfl, List.prefix_rfl⟩ _ g3 _ g4 g1, g2, g3, g4⟩
  · have hargs : ∀ k, k ≤ v.len → (argsTo (fun i S => (v.kid i).putV S) k S).err = (rargsTo (fun i R => (v.kid i).rputV R) k R).err ∧ Agree (argsTo (fun i S => (v.kid i).putV S) k S).S (rargsTo (fun i R => (v.kid i).rputV R) k R).S ∧
        ((argsTo (fun i S => (v.kid i).putV S) k S).err = 0 → ∀ i, i < k → (v.kid i).IsIn (argsTo (fun i S => (v.kid i).putV S) k S).S ((argsTo (fun i S => (v.kid i).putV S) k S).nums i)) := by
      intro k
      induction k with
      | zero => intro _; exact ⟨rfl, h, fun _ i hi => absurd hi (Nat.not_lt_zero i)⟩
      | succ k ihk =>
        intro hkl
        obtain ⟨e1, e2, e3⟩ := ihk (by omega)
        have hmk := may_kids hm hk k (by omega)
        by_cases e : (argsTo (fun i S => (v.kid i).putV S) k S).err = 0
        · have q := ih k (by omega) (d - 1) _ _ hmk e2
          simp only [argsTo_succ, rargsTo_succ, if_pos e, if_pos (e1 ▸ e)]
          refine ⟨by rw [q.1], q.2, fun e4 i hi => ?_⟩
          by_cases eik : i = k
          · subst eik
            simp only [if_true]
            exact putV_in _ (d - 1) _ hmk e2.ok e4
          · simp only [if_neg eik]
            exact IsIn.more (putV_le _ (d - 1) _ hmk) _ (d - 1) _ (may_kids hm hk i (by omega)) (e3 e i (by omega))
        · simp only [argsTo_succ, rargsTo_succ, if_neg e, if_neg (e1 ▸ e)]
          exact ⟨e1, e2, fun e4 => absurd e4 e⟩
    obtain ⟨e1, e2, e3⟩ := hargs v.len (Nat.le_refl _)
    rw [V.putV_con hk] at hokall ⊢
    rw [V.rputV_con hk]
    by_cases e : (argsTo (fun i S => (v.kid i).putV S) v.len S).err = 0
    · rw [if_pos e] at hokall ⊢
      rw [if_pos (e1 ▸ e)]
      exact agree_node e2 hm hk (e3 e) hokall
    · rw [if_neg e, if_neg (e1 ▸ e)]
      exact ⟨by rw [e1], e2⟩

theorem agree_putAll {v : V} {S : SS} {R : RS} (h : Agree S R) : (putAll v S).1 = (rputAll v R).1 ∧ Agree (putAll v S).2 (rputAll v R).2 := by
  unfold putAll rputAll
  cases hr : v.right with
  | true => exact agree_put v 32 S R (right_may hr) h
  | false => exact ⟨rfl, h⟩
theorem agree_new : Agree S0 ⟨[], []⟩ :=
  ⟨rfl, rfl, fun j hj => absurd hj (Nat.not_lt_zero j), ⟨Nat.le_refl _, fun l hl => (by cases hl)⟩, ⟨List.nodup_nil, List.nodup_nil, List.nodup_nil⟩⟩
end Go.Proofs.YtbfkcfhkccicoaaDoor
