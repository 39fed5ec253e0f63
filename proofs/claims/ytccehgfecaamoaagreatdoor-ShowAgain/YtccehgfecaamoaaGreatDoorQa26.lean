/- show's writer: list at vestry/api.Lit. -/
import Derived.Test.YtccehgfecaamoaaGreatDoorQa24
set_option maxRecDepth 100000
set_option maxHeartbeats 32000000
namespace Go.Proofs.YtccehgfecaamoaaGreatDoor
section
open Go.RowKit Go.Maps
theorem Qge {w : World} {b o : Nat} {c0 c1 c2 c3 c4 c5 c6 c7 c8 c9 c10 c11 c12 c13 c14 c15 : Value} (h : ∀ q c, ([c0, c1, c2, c3, c4, c5, c6, c7, c8, c9, c10, c11, c12, c13, c14, c15] : List Value)[q]? = some c → w.cell? ⟨b, o + q, none⟩ = some c) : (ltLoad (.pointer (some ⟨b, o, none⟩))).run Tryz.prog w = .ok (.agg #[c0, c1, c2, c3, c4, c5, c6, c7, c8, c9, c10, c11, c12, c13, c14, c15]) w :=
 run_loadAt_mid w b o 69 [c0, c1, c2, c3, c4, c5, c6, c7, c8, c9, c10, c11, c12, c13, c14, c15] _ (fun q v hq => h q v hq) Tryz.underlying69 rfl Qg
theorem Qnm (w : World) {c0 c1 c2 c3 c4 c5 c6 c7 c8 c9 c10 c11 c12 c13 c14 c15 : Value} (h1 : ∀ c ∈ ([c0, c1, c2, c3, c4, c5, c6, c7, c8, c9, c10, c11, c12, c13, c14, c15] : List Value), c.oneCell' = true) : (ltStore (.pointer (some ⟨w.heap.size, 0, none⟩)) (.agg #[c0, c1, c2, c3, c4, c5, c6, c7, c8, c9, c10, c11, c12, c13, c14, c15])).run Tryz.prog (w.alloc ltZ) = .ok () (w.alloc (.cells #[c0, c1, c2, c3, c4, c5, c6, c7, c8, c9, c10, c11, c12, c13, c14, c15] 69)) :=
 run_storeAt_new w 69 _ _ Qg rfl (by simpa using h1)
theorem Qnl {cs : List Value} (h : cs.length = 16) : ∃ c0 c1 c2 c3 c4 c5 c6 c7 c8 c9 c10 c11 c12 c13 c14 c15, cs = [c0, c1, c2, c3, c4, c5, c6, c7, c8, c9, c10, c11, c12, c13, c14, c15] := by
 match cs, h with
 | [c0, c1, c2, c3, c4, c5, c6, c7, c8, c9, c10, c11, c12, c13, c14, c15], _ => exact ⟨c0, c1, c2, c3, c4, c5, c6, c7, c8, c9, c10, c11, c12, c13, c14, c15, rfl⟩
attribute [local go_sem ↓] Qdx Qdl
theorem Qnk {B b : Nat} {c : Txt} {lg : Bool} {w : World} (h : Wr B b c lg w) (sep : ByteArray) (hsep : sep.size ≤ 64) {sa : Option Addr} {sc : Nat} {xs : List Lt} (hL : LsAt PLt 16 (fun q => q < B) w (.slice sa xs.length sc) xs) (T : Lt → Txt) (hW : ∀ x ∈ xs, PtM 71 B b PLt x (T x)) (hx : xs.length ≤ 9223372036854775807) :
  Calls Tryz.prog 70 #[.pointer (some ⟨b, 0, none⟩), .string sep, .slice sa xs.length sc, .func (.func 71) #[.pointer (some ⟨b, 0, none⟩)] #[]] w fun e w' => WrA B b c lg (joinT sep.data.toList (xs.map T)) w e w' := by
 have HH := hide h
 have HL := hide hL
 have HW := hide hW
 obtain ⟨n, hn⟩ : ∃ n, xs.length = n := ⟨_, rfl⟩
 rw [hn]
 have HN := hide hn
 have hn6 : n ≤ 9223372036854775807 := by omega
 clear h hL hW hn hx
 go_enter Tryz.func70, Tryz.ntmps70
 go_wp2_with fail
 go_loopw [12] (fun v wr => ∃ (j : Nat) (c1 : Txt) (l1 : Bool), v = .int .i64 (j : Int) ∧ j ≤ n ∧ Hid (Kept B b w wr ∧ Wr B b c1 l1 wr ∧ WT c lg (joinT sep.data.toList ((xs.map T).take j)) c1 l1)) (fun v _ => n - (intOf v).toNat)
 case atStart => exact ⟨0, c, lg, rfl, Nat.zero_le _, hide ⟨Kept.refl _ _ _, Qa HH, WT.refl _ _ (Qa HH).few⟩⟩
 obtain ⟨j, t1, l1, rfl, hj, HI⟩ := hrel
 by_cases hlt : j < n
 ·
  obtain ⟨x, hxj⟩ : ∃ x, xs[j]? = some x := ⟨xs[j]'(by rw [Qa HN]; exact hlt), List.getElem?_eq_getElem _⟩
  obtain ⟨gb, cap, cs, e1, hgb, hS, hl, hcs, hc⟩ := ((Qa HL).same Qbn (Qa HI).1.below.size (fun q hq _ => (Qa HI).1.below.block q hq)).elem hxj
  obtain ⟨c0, c1, c2, c3, c4, c5, c6, c7, c8, c9, c10, c11, c12, c13, c14, c15, rfl⟩ := Qnl hl
  simp only [Value.slice.injEq] at e1
  obtain ⟨rfl, -, -⟩ := e1
  have hwx := Qa HW x (List.mem_of_getElem? hxj)
  have htk : (xs.map T).take (j + 1) = (xs.map T).take j ++ [T x] := by rw [List.take_add_one, List.getElem?_map, hxj]; rfl
  have htn : j ≠ 0 → (xs.map T).take j ≠ [] := fun h0 e => by
   have := congrArg List.length e
   rw [List.length_take, List.length_map, Qa HN] at this
   simp at this
   omega
  have hB : B ≤ wr.heap.size := (Qa HI).2.1.hB
  obtain ⟨w2, hw2⟩ : ∃ w2, w2 = wr.alloc (.cells #[c0, c1, c2, c3, c4, c5, c6, c7, c8, c9, c10, c11, c12, c13, c14, c15] 69) := ⟨_, rfl⟩
  have b2 : Below wr.heap.size wr w2 := by rw [hw2]; exact (Below.refl _ wr).alloc (Nat.le_refl _) _
  have n2 : w2.heap[wr.heap.size]? = some (.cells #[c0, c1, c2, c3, c4, c5, c6, c7, c8, c9, c10, c11, c12, c13, c14, c15] 69 (0, 0)) := by rw [hw2]; exact heap_alloc_new wr _
  have h2 := (Qa HI).2.1.later b2
  have k2 := (Qa HI).1.trans (Kept.later (b := b) hB b2)
  have L1 := Qge (w := wr) (b := gb) (o := j * 16) hc
  have N1 := Qnm wr (Qhq hcs)
  rw [← hw2] at N1
  have q2 : PLt (fun q => q < B) w2 [c0, c1, c2, c3, c4, c5, c6, c7, c8, c9, c10, c11, c12, c13, c14, c15] x := Qbn.same _ _ _ _ _ hcs b2.size (fun q _ hl => b2.block q hl)
  obtain ⟨p, v, hbx, _⟩ := h2.box
  obtain ⟨_, _, u2, _, uf⟩ := cl3w hbx
  have hxne : wr.heap.size ≠ b := by have := (Qa HI).2.1.lt; omega
  have HK := hide (Ya k2 (Ya h2 (Ya n2 hxne)))
  have HQ := hide q2
  have HTK := hide (Ya htk htn)
  have HWX := hide hwx
  clear q2 hgb hS hc hcs hl hxj hwx htk htn hB hw2 b2 n2 h2 k2 hbx hxne
  cases l1
  ·
   by_cases h0 : j = 0
   ·
    have g0 : ¬ ((0 : Int) < (j : Int)) := by omega
    have L3 := Qge (w := w2) (b := wr.heap.size) (o := 0) (fun q c hq => by rw [Qaa ((Qa HK).2.2.1), Nat.zero_add]; simpa using hq)
    have hcl := Qa HWX w2 t1 false [c0, c1, c2, c3, c4, c5, c6, c7, c8, c9, c10, c11, c12, c13, c14, c15] (Qa HQ) (Qa HK).2.1
    have H0 := hide h0
    clear h0
    go_wp2_with fail
    refine hcl.mono ?_
    clear hcl L1 N1 L3
    rintro en w3 ⟨rfl, k3, t3, l3, h3, e3⟩
    have H3 := hide (Ya k3 (Ya h3 e3))
    clear k3 h3 e3
    go_wp2_with fail
    go_roundw
    case rel =>
     obtain ⟨k3, h3, e3⟩ := Qa H3
     refine ⟨j + 1, t3, l3, by go_num, by omega, hide ⟨(Qa HK).1.trans k3, h3, ?_⟩⟩
     rw [(Qa HTK).1, Qa H0, List.take_zero]
     have q := (Qa HI).2.2
     rw [Qa H0, List.take_zero] at q
     have := q.trans e3
     simpa [joinT] using this
    case measure => simp [intOf]; omega
   have g0 : (0 : Int) < (j : Int) := by omega
   have had := Qav (Qa HK).2.1 sep (by omega)
   have H0 := hide h0
   clear h0
   go_wp2_with fail
   refine had.mono ?_
   clear had L1 N1
   rintro en w3 ⟨rfl, k3, t3, l3, h3, e3⟩
   have n3 : w3.heap[wr.heap.size]? = some (.cells #[c0, c1, c2, c3, c4, c5, c6, c7, c8, c9, c10, c11, c12, c13, c14, c15] 69 (0, 0)) := k3.others _ _ (Qa HK).2.2.1 (fun e => (Qa HK).2.2.2 (by simpa using e)) (fun c fz e => by cases e)
   have L3 := Qge (w := w3) (b := wr.heap.size) (o := 0) (fun q c hq => by rw [Qaa (n3), Nat.zero_add]; simpa using hq)
   have hcl := Qa HWX w3 t3 l3 [c0, c1, c2, c3, c4, c5, c6, c7, c8, c9, c10, c11, c12, c13, c14, c15] (Qbn.same _ _ _ _ _ (Qa HQ) k3.below.size (fun q hq _ => k3.below.block q hq)) h3
   have H3 := hide (Ya k3 e3)
   clear k3 h3 e3 n3
   go_wp2_with fail
   refine hcl.mono ?_
   clear hcl L3
   rintro en w4 ⟨rfl, k4, t4, l4, h4, e4⟩
   have H4 := hide (Ya k4 (Ya h4 e4))
   clear k4 h4 e4
   go_wp2_with fail
   go_roundw
   case rel =>
    obtain ⟨k3, e3⟩ := Qa H3
    obtain ⟨k4, h4, e4⟩ := Qa H4
    refine ⟨j + 1, t4, l4, by go_num, by omega, hide ⟨((Qa HK).1.trans k3).trans k4, h4, ?_⟩⟩
    rw [(Qa HTK).1, Qct, if_neg ((Qa HTK).2 (Qa H0))]
    exact ((Qa HI).2.2.trans e3).trans e4
   case measure => simp [intOf]; omega
  go_wp2_with fail
  go_end0
  obtain ⟨k2, h2, _⟩ := Qa HK
  refine ⟨rfl, k2, t1, true, h2, (Qa HI).2.2.cut ?_⟩
  have := Qdv sep.data.toList ((xs.map T).take j) ((xs.map T).drop j)
  rwa [List.take_append_drop] at this
 have ej : j = n := by omega
 have HE := hide (show (xs.map T).take j = xs.map T by rw [ej, ← Qa HN, ← List.length_map (f := T)]; exact List.take_length)
 clear ej
 go_wp2_with fail
 go_end0
 refine ⟨rfl, (Qa HI).1, t1, l1, (Qa HI).2.1, ?_⟩
 have := (Qa HI).2.2
 rw [Qa HE] at this
 exact this
end
end Go.Proofs.YtccehgfecaamoaaGreatDoor
