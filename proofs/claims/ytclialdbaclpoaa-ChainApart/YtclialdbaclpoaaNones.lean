/- Walks of bits.Mul, slices.Repeat of one number, and nones. -/
import Derived.Test.YtclialdbaclpoaaWays
import Derived.Shelf.Bits.Mul64
import Derived.Laws.CopyRow
import Derived.Laws.OwnMore
import Derived.Shelf.RegionOpenPlain
import Derived.Test.YtclialdbaclpoaaPair
namespace Go.Proofs.Ytclialdbaclpoaa
open Go.RowKit Go.Shelf Go.Maps Go.Lib

set_option maxRecDepth 100000 in
set_option maxHeartbeats 2000000 in
theorem mul64_any (x y : Nat) (hx : x < 18446744073709551616) (hy : y < 18446744073709551616) (w : World) :
    Calls Try.prog 61 #[.int .u64 x, .int .u64 y] w fun e w' => e = .returned (.tuple #[.int .u64 ((x * y / 18446744073709551616 : Nat) : Int), .int .u64 ((x * y % 18446744073709551616 : Nat) : Int)]) ∧ w' = w := by
  obtain ⟨bd, bt, bw, hhi⟩ := Lib.mul64_hi x y hx hy
  have ba := Lib.half_mul_le (a := x / 4294967296) (b := y / 4294967296) (by omega) (by omega)
  have bb := Lib.half_mul_le (a := x / 4294967296) (b := y % 4294967296) (by omega) (by omega)
  have bc := Lib.half_mul_le (a := x % 4294967296) (b := y / 4294967296) (by omega) (by omega)
  have ba' : x / 4294967296 * (y / 4294967296) < 18446744073709551616 := by omega
  have bb' : x / 4294967296 * (y % 4294967296) < 18446744073709551616 := by omega
  have bc' : x % 4294967296 * (y / 4294967296) < 18446744073709551616 := by omega
  have bh1 : x / 4294967296 * (y / 4294967296) + (x / 4294967296 * (y % 4294967296) + x % 4294967296 * (y % 4294967296) / 4294967296) / 4294967296 < 18446744073709551616 := by omega
  have bh : x / 4294967296 * (y / 4294967296) + (x / 4294967296 * (y % 4294967296) + x % 4294967296 * (y % 4294967296) / 4294967296) / 4294967296 + ((x / 4294967296 * (y % 4294967296) + x % 4294967296 * (y % 4294967296) / 4294967296) % 4294967296 + x % 4294967296 * (y / 4294967296)) / 4294967296 < 18446744073709551616 := by omega
  go_enter Try.func61, Try.ntmps61
  go_wp2_with fail
  simp only [Mul64.maskN x hx, Mul64.maskN y hy, Mul64.divN, Mul64.mulN, Mul64.addN, Mul64.wrapN _ bd, Mul64.wrapN _ bb', Mul64.wrapN _ bt, Mul64.maskN _ bt, Mul64.wrapN _ bc', Mul64.wrapN _ bw, Mul64.wrapN _ ba', Mul64.wrapN _ bh1, Mul64.wrapN _ bh, Mul64.wrapM (x * y)]
  rw [hhi]
  go_ret2
  exact ⟨rfl, rfl⟩

set_option maxRecDepth 100000 in
set_option maxHeartbeats 2000000 in
theorem mul_any (x y : Nat) (hx : x < 18446744073709551616) (hy : y < 18446744073709551616) (w : World) :
    Calls Try.prog 53 #[.int .u64 x, .int .u64 y] w fun e w' => e = .returned (.tuple #[.int .u64 ((x * y / 18446744073709551616 : Nat) : Int), .int .u64 ((x * y % 18446744073709551616 : Nat) : Int)]) ∧ w' = w := by
  have c64 := mul64_any x y hx hy w
  go_enter Try.func53, Try.ntmps53
  go_wp2_with fail
  refine c64.mono ?_
  rintro e w' ⟨rfl, hw⟩
  rw [hw]
  go_wp2_with fail
  go_ret2
  exact ⟨rfl, rfl⟩

/-- A row that is being filled. -/
def FillR (w : World) (g n : Nat) (i : Value) (wr : World) : Prop := ∃ (k : Nat) (cur : Array Value), 1 ≤ k ∧ k ≤ n ∧ i = .int .i64 (k : Int) ∧ wr.heap[g]? = some (.cells cur 3 (0, 0)) ∧ cur.size = n ∧ (∀ j, j < k → cur[j]? = some (.int .i64 (-1))) ∧ Below w.heap.size w wr

theorem fill_at {cur : Array Value} {k c n : Nat} (hs : cur.size = n) (hk : k + c ≤ n) (h : ∀ j, j < k → cur[j]? = some (.int .i64 (-1))) :
    (cur.toList.take k ++ List.replicate c (Value.int .i64 (-1)) ++ cur.toList.drop (k + (List.replicate c (Value.int .i64 (-1))).length)).toArray.size = n ∧ ∀ j, j < k + c → (cur.toList.take k ++ List.replicate c (Value.int .i64 (-1)) ++ cur.toList.drop (k + (List.replicate c (Value.int .i64 (-1))).length)).toArray[j]? = some (.int .i64 (-1)) := by
  refine ⟨by simp; omega, fun j hj => ?_⟩
  rw [List.getElem?_toArray, List.getElem?_append_left (by simp; omega)]
  by_cases h1 : j < k
  · rw [List.getElem?_append_left (by simp; omega), List.getElem?_take_of_lt h1]
    simpa using h j h1
  · rw [List.getElem?_append_right (by simp; omega), List.getElem?_replicate, if_pos (by simp; omega)]
/-- 'copy' within the row. -/
theorem copy_fill (w : World) (g k n : Nat) (cur : Array Value) (c1 c2 : Nat) (hg : w.heap[g]? = some (.cells cur 3 (0, 0))) (hs : cur.size = n) (hk : k ≤ n) (h : ∀ j, j < k → cur[j]? = some (.int .i64 (-1))) :
    ∃ w' cur', (Builtin.copy_ #[22, 22] 3 #[.slice (some ⟨g, k, none⟩) (n - k) c1, .slice (some ⟨g, 0, none⟩) k c2]).run Try.prog w = .ok (.int .i64 ((Nat.min k (n - k) : Nat) : Int)) w' ∧ w'.heap[g]? = some (.cells cur' 3 (0, 0)) ∧ cur'.size = n ∧ (∀ j, j < k + Nat.min k (n - k) → cur'[j]? = some (.int .i64 (-1))) ∧ Keeps (fun b => b = g) w w' := by
  have hu : Try.prog.underlying 22 = some (.slice 3) := by kernel_rfl
  have hsz : (Try.prog.info? 3).map (·.size) = some 1 := by kernel_rfl
  have hm1 : Nat.min k (n - k) ≤ k := Nat.min_le_left _ _
  have hm2 : Nat.min k (n - k) ≤ n - k := Nat.min_le_right _ _
  have hr := run_copy_row (P := Try.prog) w 22 22 3 3 g k (n - k) c1 ⟨g, 0, none⟩ k c2 cur 3 (List.replicate (Nat.min k (n - k)) (.int .i64 (-1))) hu hsz hg (by simp) (fun j v hj => by
    rw [List.getElem?_replicate] at hj
    split at hj
    · rename_i hlt
      cases hj
      rw [Addr.add_lit, cell_at hg, Nat.zero_add]
      exact h j (by omega)
    · cases hj) (by simp; omega) (fun v hv => by rw [List.eq_of_mem_replicate hv]; rfl)
  obtain ⟨f1, f2⟩ := fill_at (c := Nat.min k (n - k)) hs (by omega) h
  refine ⟨_, _, hr.trans ?_, setRow_heap w g cur _ _ _ hg, f1, f2, ⟨rfl, rfl, rfl, by simp [World.setRow], fun b o hb hn => (setRow_other w g b _ hn).trans hb⟩⟩
  rw [List.length_replicate]
  rfl
theorem copy_step {w : World} {ops : Array Oper} {rest : List Oper} {o : Oper} {a : Act} {Q : Exit → Act → World → Prop} (hgd : o.guard = none) (d s : Operand) (t : TypeId)
    (ho : o.op = .call { callee := .builtin .copy, args := #[d, s], argTypes := #[t, t] }) (v u : Value) (hd : a.eval d = v) (hs : a.eval s = u) {v' : Value} {w' : World}
    (hr : (Builtin.copy_ #[t, t] o.type #[v, u]).run Try.prog w = .ok v' w') (h : wpList Try.prog ops Q rest (a.put o.dst v') w') : wpList Try.prog ops Q (o :: rest) a w := by
  refine wpList_plain hgd fun _ hK => ?_
  unfold Oper.wp execOp
  simp only [ho, resolve, invoke, builtin, Sem.run_bind, Sem.run_pure, Result.andThen_ok, List.map_toArray, List.map_cons, List.map_nil, hd, hs, hr]
  exact hK _ _ h
theorem copy_drawn {ops : Array Oper} {o : Oper} {a : Act} {w : World} {K : Act → World → Prop} {Q : Exit → Act → World → Prop} {E : Prop}
    (hg : o.guard = none) (d x : Operand) (t : TypeId) (hop : o.op = Op.call { callee := Callee.builtin Builtin.copy, args := #[d, x], argTypes := #[t, t] })
    (v u : Value) (hd : a.eval d = v) (hx : a.eval x = u) {v' : Value} {w' : World} (hr : (Builtin.copy_ #[t, t] o.type #[v, u]).run Try.prog w = .ok v' w') (hK : K (a.put o.dst v') w') :
    if Region.wanted o (yielded ops a.tmps) = true then Oper.wp Try.prog o a w K Q else E := by
  have hw : Region.wanted o (yielded ops a.tmps) = true := by simp [Region.wanted, hg]
  rw [if_pos hw]
  unfold Oper.wp
  simp [execOp, hop, resolve, invoke, builtin, hd, hx, hr, Result.andThen]
  exact hK

/-- The first 'copy'. -/
theorem copy_first (w : World) (g xb n : Nat) (cur : Array Value) (c1 : Nat) (hg : w.heap[g]? = some (.cells cur 3 (0, 0))) (hs : cur.size = n) (hn : 1 ≤ n) (hx : w.cell? ⟨xb, 0, none⟩ = some (.int .i64 (-1))) :
    ∃ w' cur', (Builtin.copy_ #[22, 22] 3 #[.slice (some ⟨g, 0, none⟩) n c1, .slice (some ⟨xb, 0, none⟩) 1 1]).run Try.prog w = .ok (.int .i64 1) w' ∧ w'.heap[g]? = some (.cells cur' 3 (0, 0)) ∧ cur'.size = n ∧ (∀ j, j < 1 → cur'[j]? = some (.int .i64 (-1))) ∧ Keeps (fun b => b = g) w w' := by
  have hu : Try.prog.underlying 22 = some (.slice 3) := by kernel_rfl
  have hsz : (Try.prog.info? 3).map (·.size) = some 1 := by kernel_rfl
  have hm : Nat.min 1 n = 1 := Nat.min_eq_left hn
  have hr := run_copy_row (P := Try.prog) w 22 22 3 3 g 0 n c1 ⟨xb, 0, none⟩ 1 1 cur 3 (List.replicate 1 (.int .i64 (-1))) hu hsz hg (by rw [hm]; rfl) (fun j v hj => by
    rw [List.getElem?_replicate] at hj
    split at hj
    · rename_i hlt
      cases hj
      have : j = 0 := by omega
      subst this
      rw [Addr.add_lit]
      exact hx
    · cases hj) (by simp; omega) (fun v hv => by rw [List.eq_of_mem_replicate hv]; rfl)
  obtain ⟨f1, f2⟩ := fill_at (k := 0) (c := 1) hs (by omega) (fun j hj => by omega)
  exact ⟨_, _, hr, setRow_heap w g cur _ _ _ hg, f1, fun j hj => f2 j (by omega), ⟨rfl, rfl, rfl, by simp [World.setRow], fun b o hb hn => (setRow_other w g b _ hn).trans hb⟩⟩

set_option maxRecDepth 100000 in
set_option maxHeartbeats 4000000 in
theorem repeat_any (w : World) (n xb : Nat) (h1 : 1 ≤ n) (h2 : n ≤ 1000) (hx : w.cell? ⟨xb, 0, none⟩ = some (.int .i64 (-1))) :
    Calls Try.prog 37 #[.slice (some ⟨xb, 0, none⟩) 1 1, .int .i64 (n : Int)] w fun e w' => ∃ b c, e = .returned (.slice (some ⟨b, 0, none⟩) n c) ∧ w.heap.size ≤ b ∧ Arr w' b n (fun _ => -1) ∧ Below w.heap.size w w' := by
  have hm := mul_any 1 n (by omega) (by omega) w
  have e1 : 1 * n / 18446744073709551616 = 0 := by omega
  have e2 : 1 * n % 18446744073709551616 = n := by omega
  rw [e1, e2] at hm
  clear e1 e2
  have hxl : xb < w.heap.size := by obtain ⟨_, h, _⟩ := cells_of_cell hx; exact lt_heap h
  obtain ⟨i0, hi0, hz0, hz1, hz2⟩ := infoI
  have ht : Try.prog.underlying 22 = some (.slice 3) := by kernel_rfl
  obtain ⟨w1, hmk, hown, hgr⟩ := run_make_full (P := Try.prog) w w.heap.size 22 3 i0 (.int .i64 0) 1 ht hi0 hz0 hz1 .i64 .i64 n (by rw [hz2]; omega) (by unfold maxLen; omega) (Nat.le_refl _)
  obtain ⟨cur, hh, hcs⟩ : ∃ cur, w1.heap[w.heap.size]? = some (.cells cur 3 (0, 0)) ∧ cur.size = n := by
    rcases hown.2 with ⟨h', _⟩ | ⟨g, cap, cur, h', _, h3, _, _, h5, _⟩
    · simp at h'
    · simp only [Value.slice.injEq, Option.some.injEq, Addr.mk.injEq] at h'
      obtain ⟨⟨rfl, _⟩, _, rfl⟩ := h'
      exact ⟨cur, h3, by omega⟩
  have b1 : Below w.heap.size w w1 := ⟨hgr.os, hgr.tape, hgr.output, hgr.size, fun k hk => hgr.block k hk (fun e => by cases e)⟩
  obtain ⟨w2, cur2, hcp, hh2, hs2, hf2, hK2⟩ := copy_first w1 w.heap.size xb n cur n hh hcs h1 ((b1.cell (p := ⟨xb, 0, none⟩) hxl).trans hx)
  have b2 : Below w.heap.size w w2 := b1.trans (hK2.below hgr.size (fun b e => by omega))
  have HF : Hid (FillR w w.heap.size n (.int .i64 1) w2) := ⟨1, cur2, Nat.le_refl _, h1, rfl, hh2, hs2, hf2, b2⟩
  have hnn : ¬ ((n : Int) < 0) := by omega
  have hnb : ¬ ((9223372036854775807 : Int) < (n : Int)) := by omega
  have mixed : Try.prog.follows .mixedOrders = true := by kernel_rfl
  clear hown hgr hh hcs b1 hh2 hs2 hf2 hK2 b2 hi0 hz0 hz1 hz2 ht hx
  go_enter Try.func37, Try.ntmps37
  go_wp2_with fail
  refine hm.mono ?_
  clear hm
  rintro e w' ⟨rfl, hw⟩
  subst hw
  obtain ⟨G, hG⟩ : ∃ G, G = w'.heap.size := ⟨_, rfl⟩
  have HG := hide hG
  rw [← hG] at hmk hcp HF
  clear hG
  go_wp2_with (at_builtin; refine copy_step rfl _ _ 22 rfl _ _ rfl rfl hcp ?_)
  go_loopw [8] (fun i wr => FillR w' G n i wr) (fun i _ => n - (intOf i).toNat)
  case atStart => exact unhide HF
  case round =>
    obtain ⟨k, cur, hk1, hk2, rfl, hh, hs, hf, hb⟩ := hrel
    by_cases hkn : k < n
    · obtain ⟨w5, cur5, hcp5, hh5, hs5, hf5, hK5⟩ := copy_fill wr.drew G k n cur (n - k) n hh hs hk2 hf
      have HN : Hid (FillR w' G n (.int .i64 ((k + Nat.min k (n - k) : Nat) : Int)) w5) := ⟨k + Nat.min k (n - k), cur5, by omega, by have : Nat.min k (n - k) ≤ n - k := Nat.min_le_right _ _; omega, rfl, hh5, hs5, hf5, hb.drew.trans (hK5.below hb.size (fun b e => by have := unhide HG; omega))⟩
      have hmin : 1 ≤ Nat.min k (n - k) := Nat.le_min.2 ⟨hk1, by omega⟩
      have hmx : Nat.min k (n - k) ≤ n - k := Nat.min_le_right _ _
      generalize Nat.min k (n - k) = c at hcp5 HN hmin hmx
      clear hh hs hf hb hh5 hs5 hf5 hK5
      have hci : ¬ (n = k) := by omega
      have hb3 : (k : Int) ≤ (n : Int) := by omega
      go_wp2_with fail
      go_region_law_o (refine copy_drawn rfl _ _ 22 rfl _ _ (by simp [Act.eval, Act.put]) (by simp [Act.eval, Act.put]) hcp5 ?_)
      have hwr : IntKind.i64.wrap ((k : Int) + (c : Int)) = ((k + c : Nat) : Int) := by rw [IntKind.wrap_i64]; omega
      simp [Act.put, Array.setIfInBounds]
      rw [hwr]
      go_wp2_with fail
      go_roundw
      case rel =>
        have := unhide HN
        rw [Int.natCast_add] at this
        exact this
      case measure => simp [intOf]; omega
    · have hkn2 : k = n := by omega
      subst hkn2
      have HE : Hid (Arr wr G k (fun _ => -1) ∧ Below w'.heap.size w' wr) := ⟨⟨cur, hh, hf⟩, hb⟩
      clear hh hs hf hb
      go_wp2_with fail
      go_ret
      exact ⟨_, _, rfl, by rw [unhide HG]; exact Nat.le_refl _, unhide HE⟩

set_option maxRecDepth 100000 in
set_option maxHeartbeats 4000000 in
theorem nones_any : NonesC := by
  intro w n h1 h2
  have hr := repeat_any (w.alloc (.cells #[.int .i64 (-1)] 3)) n w.heap.size h1 h2 ((cell_at (World.alloc_heap_new _ _) 0).trans rfl)
  have b1 : Below w.heap.size w (w.alloc (.cells #[.int .i64 (-1)] 3)) := (Below.refl _ w).alloc (Nat.le_refl _) _
  have HB := hide b1
  clear b1
  go_enter Try.func30, Try.ntmps30
  go_wp2_with fail
  refine hr.mono ?_
  clear hr
  rintro e w2 ⟨b, c, rfl, hb, ha, hb2⟩
  have HE := hide (And.intro hb (And.intro ha hb2))
  clear hb ha hb2
  go_wp2_with fail
  go_ret
  have hs := (unhide HB).size
  exact ⟨b, c, rfl, Nat.le_trans hs (unhide HE).1, (unhide HE).2.1, (unhide HB).trans ((unhide HE).2.2.mono hs)⟩
end Go.Proofs.Ytclialdbaclpoaa
