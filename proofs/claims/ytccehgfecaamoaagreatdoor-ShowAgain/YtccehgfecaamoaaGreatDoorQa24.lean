/- show's writer: on the way through a part. show's writer: a list at vestry/api.Expr. term's builder: what is written stands behind what stood. term's writeSym. The library's contracts on strconv.Itoa and a Builder's String, laid at this program. -/
import Derived.Test.YtccehgfecaamoaaGreatDoorQa23
import Derived.Test.YtccehgfecaamoaaGreatDoorQa12
import Derived.Deep.Cut
import Derived.Test.YtccehgfecaamoaaGreatDoorQa06
import Derived.Shelf.Strings.BuilderK
import Derived.Lib.ItoaNum
import Derived.Shelf.LaysM
import Derived.Shelf.Strconv.Itoa3
import Derived.Test.YtccehgfecaamoaaGreatDoorProg
set_option maxRecDepth 100000
set_option maxHeartbeats 32000000
namespace Go.Proofs.YtccehgfecaamoaaGreatDoor
section
open Go.RowKit Go.Maps
structure St (B b xb : Nat) (cs : Array Value) (T : TypeId) (w : World) (c : Txt) (lg : Bool) (t : Txt) (w' : World) (c' : Txt) (lg' : Bool) : Prop where
 kept : Kept B b w w'
 wr : Wr B b c' lg' w'
 wt : WT c lg t c' lg'
 box : w'.heap[xb]? = some (.cells cs T (0, 0))
 ne : xb ≠ b
 nt : T ≠ 5
section
variable {B b xb : Nat} {cs : Array Value} {T : TypeId} {w w1 w2 : World} {c c1 : Txt} {lg l1 : Bool} {t u : Txt} {en : Ending}
theorem Wr.hB (h : Wr B b c lg w) : B ≤ w.heap.size := Nat.le_trans h.le (Nat.le_of_lt h.lt)
theorem St.start (h : Wr B b c lg w) (cs : Array Value) (hT : T ≠ 5) : St B b w.heap.size cs T w c lg [] (w.alloc (.cells cs T)) c lg := by
 have b1 : Below w.heap.size w (w.alloc (.cells cs T)) := (Below.refl _ w).alloc (Nat.le_refl _) _
 exact ⟨Kept.later h.hB b1, h.later b1, WT.refl _ _ h.few, heap_alloc_new w _, fun e => by have := h.lt; omega, hT⟩
theorem St.later (s : St B b xb cs T w c lg t w1 c1 l1) (b1 : Below w1.heap.size w1 w2) : St B b xb cs T w c lg t w2 c1 l1 :=
 ⟨s.kept.trans (Kept.later s.wr.hB b1), s.wr.later b1, s.wt, (b1.block _ (Qaf s.box)).trans s.box, s.ne, s.nt⟩
theorem St.step (s : St B b xb cs T w c lg t w1 c1 l1) (a : WrA B b c1 l1 u w1 en w2) : en = .returned (.tuple #[]) ∧ ∃ c2 l2, St B b xb cs T w c lg (t ++ u) w2 c2 l2 := by
 obtain ⟨rfl, k, c2, l2, h2, t2⟩ := a
 refine ⟨rfl, c2, l2, s.kept.trans k, h2, s.wt.trans t2, ?_, s.ne, s.nt⟩
 exact k.others _ _ s.box (fun e => s.ne (by simpa using e)) (fun c fz e => by cases e; exact s.nt rfl)
theorem St.fin (s : St B b xb cs T w c lg t w1 c1 l1) (e : t = u) : WrA B b c lg u w (.returned (.tuple #[])) w1 := ⟨rfl, s.kept, c1, l1, s.wr, e ▸ s.wt⟩
theorem St.add (s : St B b xb cs T w c lg t w1 c1 l1) (u : ByteArray) (hu : u.size ≤ 140737488355328) :
  Calls Tryz.prog 62 #[.pointer (some ⟨b, 0, none⟩), .string u] w1 fun e w2 => e = .returned (.tuple #[]) ∧ ∃ c2 l2, St B b xb cs T w c lg (t ++ u.data.toList) w2 c2 l2 :=
 (Qav s.wr u hu).mono fun _ _ a => s.step a
theorem St.addT (s : St B b xb cs T w c lg t w1 c1 l1) (u : Txt) (hu : Sh u) :
  Calls Tryz.prog 62 #[.pointer (some ⟨b, 0, none⟩), str u] w1 fun e w2 => e = .returned (.tuple #[]) ∧ ∃ c2 l2, St B b xb cs T w c lg (t ++ u) w2 c2 l2 :=
 (Qav s.wr ⟨u.toArray⟩ (by have h2 : u.length ≤ 140737488355328 := hu; simpa [ByteArray.size] using h2)).mono fun _ _ a => s.step a
theorem St.put (s : St B b xb cs T w c lg t w1 c1 l1) (ts : List Txt) (vs : Array Value) {n : Nat} (hn : ts.length = n) (hv : vs = (ts.map str).toArray) (hz : ∀ u ∈ ts, Sh u) (hl : n ≤ 64) :
  Calls Tryz.prog 63 #[.pointer (some ⟨b, 0, none⟩), .slice (some ⟨w1.heap.size, 0, none⟩) n n] (w1.alloc (.cells vs 9)) fun e w2 => e = .returned (.tuple #[]) ∧ ∃ c2 l2, St B b xb cs T w c lg (t ++ ts.flatten) w2 c2 l2 := by
 have b1 : Below w1.heap.size w1 (w1.alloc (.cells vs 9)) := (Below.refl _ w1).alloc (Nat.le_refl _) _
 have s1 := s.later b1
 have hT : TsB b w1.heap.size (w1.alloc (.cells vs 9)) ts := by
  refine ⟨vs, heap_alloc_new w1 _, fun e => ?_, fun j x hj => ?_⟩
  · have := s.wr.lt; omega
  · rw [hv]; simp [hj]
 have := Qfh (cap := n) s1.wr hT hz (by omega)
 rw [hn] at this
 exact this.mono fun _ _ a => s1.step a
end
end
section
open Go.RowKit Go.Maps
theorem Qgv {B b : Nat} {c : Txt} {lg : Bool} {w : World} (h : Wr B b c lg w) (sep : ByteArray) (hsep : sep.size ≤ 64) {sa : Option Addr} {sc : Nat} {xs : List Ex} (hL : LsAt PE 5 (fun q => q < B) w (.slice sa xs.length sc) xs) (T : Ex → Txt) (hW : ∀ x ∈ xs, PtM 101 B b PE x (T x)) (hx : xs.length ≤ 9223372036854775807) :
  Calls Tryz.prog 100 #[.pointer (some ⟨b, 0, none⟩), .string sep, .slice sa xs.length sc, .func (.func 101) #[.pointer (some ⟨b, 0, none⟩)] #[]] w fun e w' => WrA B b c lg (joinT sep.data.toList (xs.map T)) w e w' := by
 have HH := hide h
 have HL := hide hL
 have HW := hide hW
 obtain ⟨n, hn⟩ : ∃ n, xs.length = n := ⟨_, rfl⟩
 rw [hn]
 have HN := hide hn
 have hn6 : n ≤ 9223372036854775807 := by omega
 clear h hL hW hn hx
 go_enter Tryz.func100, Tryz.ntmps100
 go_wp2_with fail
 go_loopw [12] (fun v wr => ∃ (j : Nat) (c1 : Txt) (l1 : Bool), v = .int .i64 (j : Int) ∧ j ≤ n ∧ Hid (Kept B b w wr ∧ Wr B b c1 l1 wr ∧ WT c lg (joinT sep.data.toList ((xs.map T).take j)) c1 l1)) (fun v _ => n - (intOf v).toNat)
 case atStart => exact ⟨0, c, lg, rfl, Nat.zero_le _, hide ⟨Kept.refl _ _ _, Qa HH, WT.refl _ _ (Qa HH).few⟩⟩
 obtain ⟨j, c1, l1, rfl, hj, HI⟩ := hrel
 by_cases hlt : j < n
 ·
  obtain ⟨x, hxj⟩ : ∃ x, xs[j]? = some x := ⟨xs[j]'(by rw [Qa HN]; exact hlt), List.getElem?_eq_getElem _⟩
  obtain ⟨gb, cap, cs, e1, hgb, hS, _, hcs, hc⟩ := ((Qa HL).same Qae (Qa HI).1.below.size (fun q hq _ => (Qa HI).1.below.block q hq)).elem hxj
  have HCS := hide hcs
  obtain ⟨_, rfl, ⟨ka, kc, rfl⟩, _⟩ := ExS.cells hcs
  simp only [Value.slice.injEq] at e1
  obtain ⟨rfl, -, -⟩ := e1
  have x0 : wr.cell? ⟨gb, j * 5, none⟩ = some (.int .i64 x.kind) := hc 0 _ rfl
  have x1 : wr.cell? ⟨gb, j * 5 + 1, none⟩ = some (.int .i64 x.num) := hc 1 _ rfl
  have x2 : wr.cell? ⟨gb, j * 5 + 2, none⟩ = some (str x.txt) := hc 2 _ rfl
  have x3 : wr.cell? ⟨gb, j * 5 + 3, none⟩ = some (.slice ka x.kids.length kc) := hc 3 _ rfl
  have x4 : wr.cell? ⟨gb, j * 5 + 4, none⟩ = some (.int .i64 x.at_) := hc 4 _ rfl
  have hwx := Qa HW x (List.mem_of_getElem? hxj)
  have htk : (xs.map T).take (j + 1) = (xs.map T).take j ++ [T x] := by rw [List.take_add_one, List.getElem?_map, hxj]; rfl
  have htn : j ≠ 0 → (xs.map T).take j ≠ [] := fun h0 e => by
   have := congrArg List.length e
   rw [List.length_take, List.length_map, Qa HN] at this
   simp at this
   omega
  have hB : B ≤ wr.heap.size := Nat.le_trans (Qa HI).2.1.le (Nat.le_of_lt (Qa HI).2.1.lt)
  obtain ⟨xb, hxb⟩ : ∃ xb, wr.heap.size = xb := ⟨_, rfl⟩
  obtain ⟨w2, hw2⟩ : ∃ w2, w2 = wr.alloc (.cells #[.int .i64 x.kind, .int .i64 x.num, str x.txt, .slice ka x.kids.length kc, .int .i64 x.at_] 67) := ⟨_, rfl⟩
  have b2 : Below wr.heap.size wr w2 := by rw [hw2]; exact (Below.refl _ wr).alloc (Nat.le_refl _) _
  have n2 : w2.heap[xb]? = some (.cells #[.int .i64 x.kind, .int .i64 x.num, str x.txt, .slice ka x.kids.length kc, .int .i64 x.at_] 67 (0, 0)) := by rw [hw2, ← hxb]; exact heap_alloc_new wr _
  have h2 := (Qa HI).2.1.later b2
  have k2 := (Qa HI).1.trans (Kept.later (b := b) hB b2)
  obtain ⟨p, v, hbx, _⟩ := h2.box
  obtain ⟨_, _, u2, _, uf⟩ := cl3w hbx
  have hxne : xb ≠ b := by have := (Qa HI).2.1.lt; omega
  have HW2 := hide (Ya hw2 hxb)
  have q2 : PE (fun q => q < B) w2 [.int .i64 x.kind, .int .i64 x.num, str x.txt, .slice ka x.kids.length kc, .int .i64 x.at_] x := Qae.same _ _ _ _ _ (Qa HCS) b2.size (fun q _ hl => b2.block q hl)
  have HK := hide (Ya k2 (Ya h2 (Ya n2 hxne)))
  have HQ := hide q2
  have HTK := hide (Ya htk htn)
  have HWX := hide hwx
  clear q2 HCS hgb hS hc hxj hwx htk htn hB hxb hw2 b2 n2 h2 k2 hbx hxne
  cases l1
  ·
   by_cases h0 : j = 0
   ·
    have g0 : ¬ ((0 : Int) < (j : Int)) := by omega
    obtain ⟨y0, y1, y2, y3, y4⟩ : w2.cell? ⟨xb, 0, none⟩ = some (.int .i64 x.kind) ∧ w2.cell? ⟨xb, 1, none⟩ = some (.int .i64 x.num) ∧ w2.cell? ⟨xb, 2, none⟩ = some (str x.txt) ∧ w2.cell? ⟨xb, 3, none⟩ = some (.slice ka x.kids.length kc) ∧ w2.cell? ⟨xb, 4, none⟩ = some (.int .i64 x.at_) := ⟨(Qaa (Qa HK).2.2.1 0).trans rfl, (Qaa (Qa HK).2.2.1 1).trans rfl, (Qaa (Qa HK).2.2.1 2).trans rfl, (Qaa (Qa HK).2.2.1 3).trans rfl, (Qaa (Qa HK).2.2.1 4).trans rfl⟩
    have hcl := Qa HWX w2 c1 false [.int .i64 x.kind, .int .i64 x.num, str x.txt, .slice ka x.kids.length kc, .int .i64 x.at_] (Qa HQ) (Qa HK).2.1
    have H0 := hide h0
    clear h0
    go_upto_region 3 with fail
    rw [← (Qa HW2).1, (Qa HW2).2]
    go_wp2_with fail
    refine hcl.mono ?_
    clear hcl
    rintro en w3 ⟨rfl, k3, c3, l3, h3, t3⟩
    have H3 := hide (Ya k3 (Ya h3 t3))
    clear k3 h3 t3
    go_wp2_with fail
    go_roundw
    case rel =>
     obtain ⟨k3, h3, t3⟩ := Qa H3
     refine ⟨j + 1, c3, l3, by go_num, by omega, hide ⟨(Qa HK).1.trans k3, h3, ?_⟩⟩
     rw [(Qa HTK).1, Qa H0, List.take_zero]
     have q := (Qa HI).2.2
     rw [Qa H0, List.take_zero] at q
     have := q.trans t3
     simpa [joinT] using this
    case measure => simp [intOf]; omega
   have g0 : (0 : Int) < (j : Int) := by omega
   have had := Qav (Qa HK).2.1 sep (by omega)
   have H0 := hide h0
   clear h0
   go_upto_region 3 with fail
   rw [← (Qa HW2).1, (Qa HW2).2]
   go_wp2_with fail
   refine had.mono ?_
   clear had
   rintro en w3 ⟨rfl, k3, c3, l3, h3, t3⟩
   have n3 : w3.heap[xb]? = some (.cells #[.int .i64 x.kind, .int .i64 x.num, str x.txt, .slice ka x.kids.length kc, .int .i64 x.at_] 67 (0, 0)) := k3.others xb _ (Qa HK).2.2.1 (fun e => (Qa HK).2.2.2 (by simpa using e)) (fun c fz e => by cases e)
   obtain ⟨y0, y1, y2, y3, y4⟩ : w3.cell? ⟨xb, 0, none⟩ = some (.int .i64 x.kind) ∧ w3.cell? ⟨xb, 1, none⟩ = some (.int .i64 x.num) ∧ w3.cell? ⟨xb, 2, none⟩ = some (str x.txt) ∧ w3.cell? ⟨xb, 3, none⟩ = some (.slice ka x.kids.length kc) ∧ w3.cell? ⟨xb, 4, none⟩ = some (.int .i64 x.at_) := ⟨(Qaa n3 0).trans rfl, (Qaa n3 1).trans rfl, (Qaa n3 2).trans rfl, (Qaa n3 3).trans rfl, (Qaa n3 4).trans rfl⟩
   have hcl := Qa HWX w3 c3 l3 [.int .i64 x.kind, .int .i64 x.num, str x.txt, .slice ka x.kids.length kc, .int .i64 x.at_] (Qae.same _ _ _ _ _ (Qa HQ) k3.below.size (fun q hq _ => k3.below.block q hq)) h3
   have H3 := hide (Ya k3 t3)
   clear k3 h3 t3 n3
   go_wp2_with fail
   refine hcl.mono ?_
   clear hcl
   rintro en w4 ⟨rfl, k4, c4, l4, h4, t4⟩
   have H4 := hide (Ya k4 (Ya h4 t4))
   clear k4 h4 t4
   go_wp2_with fail
   go_roundw
   case rel =>
    obtain ⟨k3, t3⟩ := Qa H3
    obtain ⟨k4, h4, t4⟩ := Qa H4
    refine ⟨j + 1, c4, l4, by go_num, by omega, hide ⟨((Qa HK).1.trans k3).trans k4, h4, ?_⟩⟩
    rw [(Qa HTK).1, Qct, if_neg ((Qa HTK).2 (Qa H0))]
    exact ((Qa HI).2.2.trans t3).trans t4
   case measure => simp [intOf]; omega
  go_upto_region 3 with fail
  rw [← (Qa HW2).1, (Qa HW2).2]
  go_wp2_with fail
  go_end0
  obtain ⟨k2, h2, _⟩ := Qa HK
  refine ⟨rfl, k2, c1, true, h2, (Qa HI).2.2.cut ?_⟩
  have := Qdv sep.data.toList ((xs.map T).take j) ((xs.map T).drop j)
  rwa [List.take_append_drop] at this
 have ej : j = n := by omega
 have HE := hide (show (xs.map T).take j = xs.map T by rw [ej, ← Qa HN, ← List.length_map (f := T)]; exact List.take_length)
 clear ej
 go_wp2_with fail
 go_end0
 refine ⟨rfl, (Qa HI).1, c1, l1, (Qa HI).2.1, ?_⟩
 have := (Qa HI).2.2
 rw [Qa HE] at this
 exact this
end
end Go.Proofs.YtccehgfecaamoaaGreatDoor
namespace Go.Proofs.YtccehgfecaamoaaGreatDoor.Trm
open Go.RowKit

abbrev Bld (B b : Nat) (l : List UInt8) (w : World) : Prop := Lib.IsBuilderF 53 5 B b (Lib.byteCells l) w
structure Kept (B b : Nat) (w w' : World) : Prop where
 below : Below B w w'
 others : Lib.OthersKept 5 (some b) w w'
theorem Kept.refl (B b : Nat) (w : World) : Kept B b w w := ⟨Below.refl _ _, Lib.OthersKept.refl _ _ _⟩
theorem Kept.trans {B b : Nat} {u w w' : World} (h : Kept B b u w) (k : Kept B b w w') : Kept B b u w' := ⟨h.below.trans k.below, h.others.trans k.others⟩

theorem neB : (53 : Nat) ≠ 5 := by decide

theorem Qjr (b : Nat) (w : World) (h0 : w.cell? ⟨b, 0, none⟩ = some (.pointer none)) (hsh : w.shape? b = some (53, 2)) (hfz : w.frozen? ⟨b, 0, none⟩ = false) :
  Calls Tryz.prog 127 #[.pointer (some ⟨b, 0, none⟩)] w fun e w' => e = .returned (.tuple #[]) ∧ w' = w.setCell ⟨b, 0, none⟩ (.pointer (some ⟨b, 0, none⟩)) := by
 obtain ⟨j, hj, hjs⟩ := Option.map_eq_some_iff.1 (show (Tryz.prog.info? 53).map (·.size) = some 2 by kernel_rfl)
 go_enter Tryz.func127, Tryz.ntmps127
 go_wp2_with fail
 rw [Lib.run_to_unsafe w ⟨b, 0, none⟩ Tryz.underlying50 Tryz.underlying202 hj (by rw [hjs]; decide) hsh (Nat.zero_lt_succ 1)]
 simp only [Result.andThen]
 rw [Oper.upon_value]
 go_wp2_with fail
 rw [run_callFunc_extern Tryz.func145 (by kernel_rfl) (by kernel_rfl) (by kernel_rfl) (e := Extern.AbiNoEscape.same) (by kernel_rfl), Lib.run_noEscape]
 simp only [Result.andThen]
 rw [Oper.upon_value]
 go_wp2_with fail
 rw [Lib.run_from_unsafe w ⟨b, 0, none⟩ Tryz.underlying202 Tryz.underlying50 hj hsh (by kernel_rfl)]
 simp only [Result.andThen]
 rw [Oper.upon_value]
 go_wp2_with fail
 go_end0
 exact ⟨rfl, rfl⟩

theorem Qmf (b : Nat) (w : World) (h0 : w.cell? ⟨b, 0, none⟩ = some (.pointer (some ⟨b, 0, none⟩))) :
  Calls Tryz.prog 127 #[.pointer (some ⟨b, 0, none⟩)] w fun e w' => e = .returned (.tuple #[]) ∧ w' = w := by
 obtain ⟨j, hj, hjs⟩ := Option.map_eq_some_iff.1 (show (Tryz.prog.info? 53).map (·.size) = some 2 by kernel_rfl)
 go_enter Tryz.func127, Tryz.ntmps127
 go_wp2_with fail
 rw [Lib.run_neq_ptr_same w _ Tryz.underlying50 hj]
 go_wp2_with fail
 go_end0
 exact ⟨rfl, rfl⟩

theorem Qig (B b : Nat) (l : List UInt8) (w : World) (h : Bld B b l w) :
  Calls Tryz.prog 127 #[.pointer (some ⟨b, 0, none⟩)] w fun e w' => e = .returned (.tuple #[]) ∧ Lib.BuilderAtF 53 5 B b (.pointer (some ⟨b, 0, none⟩)) (Lib.byteCells l) w' ∧ Kept B b w w' := by
 rcases h with h | h
 ·
  refine (Qjr b w h.cell0 h.shape h.frozen0).mono ?_
  rintro e w' ⟨rfl, rfl⟩
  exact ⟨rfl, h.used _, (Below.refl B w).setCell (p := ⟨b, 0, none⟩) h.1 _, (Lib.OthersKept.refl _ _ w).setCell ⟨b, 0, none⟩ rfl _⟩
 refine (Qmf b w h.cell0).mono ?_
 rintro e w' ⟨rfl, rfl⟩
 exact ⟨rfl, h, Kept.refl _ _ _⟩

theorem info5 : (Tryz.prog.info? 5).map (fun i => (i.zero, i.size, i.bytes)) = some (some (.int .u8 0), 1, 1) := by kernel_rfl
theorem Qgg (l : List UInt8) (c : UInt8) : Lib.byteCells (l ++ [c]) = Lib.byteCells l ++ [.int .u8 (c.toNat : Int)] := by simp [Lib.byteCells]
theorem Qhc (l m : List UInt8) : Lib.byteCells (l ++ m) = Lib.byteCells l ++ Lib.byteCells m := by simp [Lib.byteCells]

theorem Qgc (B b : Nat) (l : List UInt8) (c : UInt8) (n : Int) (hn : n = (c.toNat : Int)) (w : World) (h : Bld B b l w) (hlen : l.length + 1 ≤ 140737488355328) (hBw : B ≤ w.heap.size) :
  Calls Tryz.prog 173 #[.pointer (some ⟨b, 0, none⟩), .int .u8 n] w fun e w' => e = .returned .nilIface ∧ Bld B b (l ++ [c]) w' ∧ Kept B b w w' := by
 obtain ⟨i0, hi, hz0, hz1, hz2⟩ := info_parts info5
 have hcl : (Lib.byteCells l).length = l.length := Lib.byteCells_length l
 have HN := hide hn
 clear hn
 go_enter Tryz.func173, Tryz.ntmps173
 go_wp2_with fail
 refine (Qig B b l _ h).mono ?_
 rintro e w1 ⟨rfl, ⟨hB, v, hbk, hown, hne⟩, hk1⟩
 have c0 : w1.cell? ⟨b, 0, none⟩ = some (.pointer (some ⟨b, 0, none⟩)) := by rw [Lib.cell_of_heap hbk]; rfl
 have c1 : w1.cell? ⟨b, 1, none⟩ = some v := by rw [Lib.cell_of_heap hbk]; rfl
 have hs1 := hk1.below.size
 go_wp2_with (at_builtin; refine wpList_append_ownF _ rfl _ _ 51 rfl B 5 i0 (.int .u8 0) 1 1 Tryz.underlying51 hi hz0 hz1 hz2 rfl (by decide) _ _ _ rfl (hown.alloc _) ⟨w1.heap.size, 0, none⟩ 1 1 [.int .u8 n] rfl rfl ?q1 ?q2 ?q3 ?q4 ?q5 ?_)
 case q1 =>
  intro j u hj
  match j, hj with
  | 0, hj => simp at hj; subst hj; simp [Addr.add]
 case q2 => intro u hu; simp at hu; subst hu; rfl
 case q3 => rw [hcl]; unfold maxLen; omega
 case q4 => rw [hcl]; omega
 case q5 => simp; omega
 intro v' w2 hown' hgrow _
 have hlt : b < w1.heap.size := (Array.getElem?_eq_some_iff.1 hbk).1
 have hb2 : w2.heap[b]? = some (.cells #[.pointer (some ⟨b, 0, none⟩), v] 53 (0, 0)) := by
  rw [hgrow.block b (by simp; omega) (fun e => hne e.symm), Lib.alloc_old w1 _ b hlt]
  exact hbk
 have d0 : w2.cell? ⟨b, 0, none⟩ = some (.pointer (some ⟨b, 0, none⟩)) := by rw [Lib.cell_of_heap hb2]; rfl
 have d1 : w2.cell? ⟨b, 1, none⟩ = some v := by rw [Lib.cell_of_heap hb2]; rfl
 have f1 : w2.frozen? ⟨b, 1, none⟩ = false := Lib.frozen_of_heap hb2 1
 obtain ⟨ao, n', cap, rfl⟩ : ∃ ao n' cap, v' = .slice ao n' cap := by
  rcases hown'.2 with ⟨hv, _⟩ | ⟨g, cap, cur, fz, hv, _⟩
  · exact ⟨_, _, _, hv⟩
  · exact ⟨_, _, _, hv⟩
 go_wp2_with fail
 go_ret
 have hk2 : Kept B b w w2 := ⟨(hk1.below.alloc (by omega) _).grown hgrow (by simp; omega) (fun k hk => (hown.lt k hk).1), (hk1.others.alloc _).grown hgrow (Lib.ownsRowF_kind (hown.alloc _))⟩
 refine ⟨rfl, .inr ?_, hk2.below.setCell (p := ⟨b, 1, none⟩) hB _, hk2.others.setCell ⟨b, 1, none⟩ rfl _⟩
 rw [Qgg, ← Qa HN]
 exact Lib.BuilderAtF.put (T := 53) (e := 5) hB hb2 (by simpa [hcl] using hown') neB

theorem Qfi (B b : Nat) (l : List UInt8) (s : ByteArray) (w : World) (h : Bld B b l w) (hlen : l.length + s.size ≤ 140737488355328) (hBw : B ≤ w.heap.size) :
  Calls Tryz.prog 99 #[.pointer (some ⟨b, 0, none⟩), .string s] w fun e w' => e = .returned (.tuple #[.int .i64 s.size, .nilIface]) ∧ Bld B b (l ++ s.data.toList) w' ∧ Kept B b w w' := by
 obtain ⟨i0, hi, hz0, hz1, hz2⟩ := info_parts info5
 have hcl : (Lib.byteCells l).length = l.length := Lib.byteCells_length l
 go_enter Tryz.func99, Tryz.ntmps99
 go_wp2_with fail
 refine (Qig B b l _ h).mono ?_
 rintro e w1 ⟨rfl, ⟨hB, v, hbk, hown, hne⟩, hk1⟩
 have c0 : w1.cell? ⟨b, 0, none⟩ = some (.pointer (some ⟨b, 0, none⟩)) := by rw [Lib.cell_of_heap hbk]; rfl
 have c1 : w1.cell? ⟨b, 1, none⟩ = some v := by rw [Lib.cell_of_heap hbk]; rfl
 have hs1 := hk1.below.size
 go_wp2_with (at_builtin; refine Lib.wpList_append_own_stringF _ rfl _ _ 51 9 rfl B 5 i0 Tryz.underlying51 Tryz.underlying9 hi hz0 hz1 hz2 _ _ _ rfl hown s rfl ?q3 ?q4 ?q5 ?_)
 case q3 => rw [hcl]; unfold maxLen; omega
 case q4 => rw [hcl]; omega
 case q5 => omega
 intro v' w2 hown' hgrow _
 have hlt : b < w1.heap.size := (Array.getElem?_eq_some_iff.1 hbk).1
 have hb2 : w2.heap[b]? = some (.cells #[.pointer (some ⟨b, 0, none⟩), v] 53 (0, 0)) := by
  rw [hgrow.block b hlt (fun e => hne e.symm)]
  exact hbk
 have d0 : w2.cell? ⟨b, 0, none⟩ = some (.pointer (some ⟨b, 0, none⟩)) := by rw [Lib.cell_of_heap hb2]; rfl
 have d1 : w2.cell? ⟨b, 1, none⟩ = some v := by rw [Lib.cell_of_heap hb2]; rfl
 have f1 : w2.frozen? ⟨b, 1, none⟩ = false := Lib.frozen_of_heap hb2 1
 obtain ⟨ao, n', cap, rfl⟩ : ∃ ao n' cap, v' = .slice ao n' cap := by
  rcases hown'.2 with ⟨hv, _⟩ | ⟨g, cap, cur, fz, hv, _⟩
  · exact ⟨_, _, _, hv⟩
  · exact ⟨_, _, _, hv⟩
 go_wp2_with fail
 go_ret2
 have hk2 : Kept B b w w2 := ⟨hk1.below.grown hgrow (by omega) (fun k hk => (hown.lt k hk).1), hk1.others.grown hgrow (Lib.ownsRowF_kind hown)⟩
 refine ⟨rfl, .inr ?_, hk2.below.setCell (p := ⟨b, 1, none⟩) hB _, hk2.others.setCell ⟨b, 1, none⟩ rfl _⟩
 rw [Qhc]
 exact Lib.BuilderAtF.put (T := 53) (e := 5) hB hb2 (bs' := Lib.byteCells l ++ Lib.byteCells s.data.toList) (by
  have e : Lib.byteCells s.data.toList = Lib.strCells s := rfl
  rw [e]
  simpa [hcl, Lib.strCells_length] using hown') neB
end Go.Proofs.YtccehgfecaamoaaGreatDoor.Trm
namespace Go.Proofs.YtccehgfecaamoaaGreatDoor.Trm
open Go.RowKit

def esc (c : UInt8) : List UInt8 := if c = 34 then [92, 34] else if c = 92 then [92, 92] else if c = 10 then [92, 110] else if c = 9 then [92, 116] else [c]
def escs (l : List UInt8) : List UInt8 := l.flatMap esc
def quoted (s : ByteArray) : List UInt8 := [34] ++ escs s.data.toList ++ [34]
theorem esc_len (c : UInt8) : (esc c).length ≤ 2 := by
 unfold esc
 repeat (split; · simp)
 simp
theorem escs_len : ∀ l : List UInt8, (escs l).length ≤ 2 * l.length
 | [] => by simp [escs]
 | c :: l => by
  have h1 := escs_len l
  have h2 := esc_len c
  have : escs (c :: l) = esc c ++ escs l := rfl
  rw [this, List.length_append, List.length_cons]; omega
theorem Qot (l : List UInt8) (c : UInt8) : escs (l ++ [c]) = escs l ++ esc c := by simp [escs]
theorem itoa_len {n : Int} (h0 : -9223372036854775808 ≤ n) (h1 : n ≤ 9223372036854775807) : (Lib.itoa n).length ≤ 21 := by
 have hd : (Lib.decDigits n.natAbs).length ≤ 20 := by
  rw [Lib.decDigits_length]
  by_cases h1 : 1 ≤ n.natAbs
  ·
   have := Lib.numDigits_eq n.natAbs h1 (by omega)
   split at this <;> omega
  · rw [Lib.nDigits_small (by omega)]; omega
 unfold Lib.itoa
 split
 · simp only [List.length_cons]; omega
 have e : n.toNat = n.natAbs := by omega
 rw [e]; omega

theorem Qga (s : ByteArray) (k : Nat) (h : k < s.size) : s.data.toList.take (k + 1) = s.data.toList.take k ++ [s[k]] := by
 rw [List.take_succ_eq_append_getElem (by simpa using h)]; rfl
theorem Qtf (s : ByteArray) : s.data.toList.take s.size = s.data.toList := List.take_of_length_le (by rw [Array.length_toList]; exact Nat.le_refl _)
theorem Qhd {c : UInt8} {n : Nat} (hn : n < 256) : ((c.toNat : Int) == (n : Int)) = decide (c = UInt8.ofNat n) := by
 by_cases h : c = UInt8.ofNat n
 ·
  subst h
  rw [decide_eq_true rfl]
  have : (UInt8.ofNat n).toNat = n := by simp; omega
  rw [this]; simp
 rw [decide_eq_false h]
 rw [beq_eq_false_iff_ne]
 intro e
 exact h (UInt8.toNat_inj.1 (by simp; omega))

def escTo (s : ByteArray) (k : Nat) : List UInt8 := escs (s.data.toList.take k)
theorem Qmh {s : ByteArray} {k : Nat} (h : k < s.size) : escTo s (k + 1) = escTo s k ++ esc s[k] := by
 unfold escTo
 rw [Qga s k h, Qot]
theorem Qos (s : ByteArray) (k : Nat) : (escTo s k).length ≤ 2 * s.size := by
 have h1 := escs_len (s.data.toList.take k)
 have h2 : (s.data.toList.take k).length ≤ s.size := by
  rw [List.length_take, Array.length_toList]
  exact Nat.min_le_right _ _
 unfold escTo; omega

theorem wsym_any (B b : Nat) (l : List UInt8) (s : ByteArray) (w : World) (h : Bld B b l w) (hlen : l.length ≤ 1000000000000) (hs : s.size ≤ 65536) (hBw : B ≤ w.heap.size) :
  Calls Tryz.prog 164 #[.pointer (some ⟨b, 0, none⟩), .string s] w fun e w' => e = .returned (.tuple #[]) ∧ Bld B b (l ++ quoted s) w' ∧ Kept B b w w' := by
 have HQ : Hid (l ++ [34] ++ escTo s s.size ++ [34] = l ++ quoted s) := by
  show _ = _
  unfold escTo quoted
  rw [Qtf]; simp
 go_enter Tryz.func164, Tryz.ntmps164
 go_wp2_with fail
 refine (Qgc B b l 34 34 rfl _ h (by omega) hBw).mono ?_
 rintro e w1 ⟨rfl, h1, k1⟩
 have HB1 := hide h1
 have HK1 := hide k1
 clear h1 k1 h
 go_wp2_with fail
 go_loopw [9] (fun i wr => ∃ k : Nat, k ≤ s.size ∧ i = .int .i64 k ∧ Hid (Bld B b (l ++ [34] ++ escTo s k) wr) ∧ Hid (Kept B b w wr)) (fun i _ => s.size - (intOf i).toNat)
 case atStart =>
  refine ⟨0, Nat.zero_le _, rfl, ?_, HK1⟩
  have e0 : l ++ [34] ++ escTo s 0 = l ++ [34] := by simp [escTo, escs]
  rw [e0]; exact HB1
 obtain ⟨k, hk, rfl, hb, hkp⟩ := hrel
 have hszr : Hid (B ≤ wr.heap.size) := Nat.le_trans hBw (Qa hkp).below.size
 have hln : Hid ((l ++ [34] ++ escTo s k).length + 2 ≤ 140737488355328) := by
  have := Qos s k
  show _ ≤ _
  simp only [List.length_append, List.length_cons, List.length_nil]; omega
 by_cases hlt : k < s.size
 ·
  have hst := hide (Qmh hlt)
  have q34 := Qhd (c := s[k]) (n := 34) (by omega)
  have q92 := Qhd (c := s[k]) (n := 92) (by omega)
  have q10 := Qhd (c := s[k]) (n := 10) (by omega)
  have q9 := Qhd (c := s[k]) (n := 9) (by omega)
  have fin : ∀ (w2 : World) (x : List UInt8), x = esc s[k] → Bld B b (l ++ [34] ++ escTo s k ++ x) w2 → Kept B b wr w2 → Hid (Bld B b (l ++ [34] ++ escTo s (k + 1)) w2) ∧ Hid (Kept B b w w2) := fun w2 x hx h1 h2 => by
   refine ⟨?_, (Qa hkp).trans h2⟩
   show Bld _ _ _ _
   rw [Qa hst, ← List.append_assoc, ← hx]; exact h1
  have FIN := hide fin
  clear fin hkp
  by_cases e1 : s[k] = 34
  ·
   have b1 : ((s[k].toNat : Int) == 34) = true := by rw [show (34 : Int) = ((34 : Nat) : Int) from rfl, q34]; exact decide_eq_true e1
   have E1 : Hid ([92, 34] = esc s[k]) := by show _ = _; unfold esc; rw [if_pos e1]
   clear e1 q34 q92 q10 q9
   go_wp2_with fail
   refine (Qfi B b _ ⟨#[92, 34]⟩ _ (Qa hb) (show _ + 2 ≤ _ from Qa hln) (Qa hszr)).mono ?_
   rintro e w2 ⟨rfl, h2, k2⟩
   have hF := Qa FIN _ _ (Qa E1) h2 k2
   clear h2 k2
   go_wp2_with fail
   go_roundw
   case rel => exact ⟨k + 1, by omega, by go_num, hF.1, hF.2⟩
   case measure => simp [intOf]; omega
  have b34 : ((s[k].toNat : Int) == 34) = false := by rw [show (34 : Int) = ((34 : Nat) : Int) from rfl, q34]; exact decide_eq_false e1
  by_cases e2 : s[k] = 92
  ·
   have b92 : ((s[k].toNat : Int) == 92) = true := by rw [show (92 : Int) = ((92 : Nat) : Int) from rfl, q92]; exact decide_eq_true e2
   have E1 : Hid ([92, 92] = esc s[k]) := by show _ = _; unfold esc; rw [if_neg e1, if_pos e2]
   clear e1 e2 q34 q92 q10 q9
   go_wp2_with fail
   refine (Qfi B b _ ⟨#[92, 92]⟩ _ (Qa hb) (show _ + 2 ≤ _ from Qa hln) (Qa hszr)).mono ?_
   rintro e w2 ⟨rfl, h2, k2⟩
   have hF := Qa FIN _ _ (Qa E1) h2 k2
   clear h2 k2
   go_wp2_with fail
   go_roundw
   case rel => exact ⟨k + 1, by omega, by go_num, hF.1, hF.2⟩
   case measure => simp [intOf]; omega
  have b92 : ((s[k].toNat : Int) == 92) = false := by rw [show (92 : Int) = ((92 : Nat) : Int) from rfl, q92]; exact decide_eq_false e2
  by_cases e3 : s[k] = 10
  ·
   have b10 : ((s[k].toNat : Int) == 10) = true := by rw [show (10 : Int) = ((10 : Nat) : Int) from rfl, q10]; exact decide_eq_true e3
   have E1 : Hid ([92, 110] = esc s[k]) := by show _ = _; unfold esc; rw [if_neg e1, if_neg e2, if_pos e3]
   clear e1 e2 e3 q34 q92 q10 q9
   go_wp2_with fail
   refine (Qfi B b _ ⟨#[92, 110]⟩ _ (Qa hb) (show _ + 2 ≤ _ from Qa hln) (Qa hszr)).mono ?_
   rintro e w2 ⟨rfl, h2, k2⟩
   have hF := Qa FIN _ _ (Qa E1) h2 k2
   clear h2 k2
   go_wp2_with fail
   go_roundw
   case rel => exact ⟨k + 1, by omega, by go_num, hF.1, hF.2⟩
   case measure => simp [intOf]; omega
  have b10 : ((s[k].toNat : Int) == 10) = false := by rw [show (10 : Int) = ((10 : Nat) : Int) from rfl, q10]; exact decide_eq_false e3
  by_cases e4 : s[k] = 9
  ·
   have b9 : ((s[k].toNat : Int) == 9) = true := by rw [show (9 : Int) = ((9 : Nat) : Int) from rfl, q9]; exact decide_eq_true e4
   have E1 : Hid ([92, 116] = esc s[k]) := by show _ = _; unfold esc; rw [if_neg e1, if_neg e2, if_neg e3, if_pos e4]
   clear e1 e2 e3 e4 q34 q92 q10 q9
   go_wp2_with fail
   refine (Qfi B b _ ⟨#[92, 116]⟩ _ (Qa hb) (show _ + 2 ≤ _ from Qa hln) (Qa hszr)).mono ?_
   rintro e w2 ⟨rfl, h2, k2⟩
   have hF := Qa FIN _ _ (Qa E1) h2 k2
   clear h2 k2
   go_wp2_with fail
   go_roundw
   case rel => exact ⟨k + 1, by omega, by go_num, hF.1, hF.2⟩
   case measure => simp [intOf]; omega
  have b9 : ((s[k].toNat : Int) == 9) = false := by rw [show (9 : Int) = ((9 : Nat) : Int) from rfl, q9]; exact decide_eq_false e4
  have E1 : Hid ([s[k]] = esc s[k]) := by show _ = _; unfold esc; rw [if_neg e1, if_neg e2, if_neg e3, if_neg e4]
  clear e1 e2 e3 e4 q34 q92 q10 q9
  go_wp2_with fail
  refine (Qgc B b _ s[k] _ rfl _ (Qa hb) (by have := Qa hln; omega) (Qa hszr)).mono ?_
  rintro e w2 ⟨rfl, h2, k2⟩
  have hF := Qa FIN _ _ (Qa E1) h2 k2
  clear h2 k2
  go_wp2_with fail
  go_roundw
  case rel => exact ⟨k + 1, by omega, by go_num, hF.1, hF.2⟩
  case measure => simp [intOf]; omega
 have : k = s.size := by omega
 subst this
 go_wp2_with fail
 refine (Qgc B b _ 34 34 rfl _ (Qa hb) (by have := Qa hln; omega) (Qa hszr)).mono ?_
 rintro e w2 ⟨rfl, h2, k2⟩
 have hF : Kept B b w w2 := (Qa hkp).trans k2
 rw [Qa HQ] at h2
 have H2 := hide h2
 clear h2 k2 hkp
 go_wp2_with fail
 go_end0
 exact ⟨rfl, Qa H2, hF⟩

theorem Bld.later {B b : Nat} {l : List UInt8} {w w' : World} (h : Bld B b l w) (hb : Below w.heap.size w w') : Bld B b l w' := by
 have key : ∀ p, Lib.BuilderAtF 53 5 B b p (Lib.byteCells l) w → Lib.BuilderAtF 53 5 B b p (Lib.byteCells l) w' := fun p h => by
  obtain ⟨hB, v, hbk, hown, hne⟩ := h
  refine ⟨hB, v, (hb.block b (Array.getElem?_eq_some_iff.1 hbk).1).trans hbk, ⟨hown.1, ?_⟩, hne⟩
  rcases hown.2 with e | ⟨g, cap, cur, fz, hv, hg1, hg2, r⟩
  · exact .inl e
  · exact .inr ⟨g, cap, cur, fz, hv, hg1, (hb.block g (Array.getElem?_eq_some_iff.1 hg2).1).trans hg2, r⟩
 exact h.elim (fun x => .inl (key _ x)) (fun x => .inr (key _ x))
end Go.Proofs.YtccehgfecaamoaaGreatDoor.Trm
namespace Go.Proofs
open Go.Shelf
def Tryz.lays169_ren : Go.Shelf.Ren := ⟨fun | 169 => 14 | n => n, fun | 70 => 50 | 9 => 9 | 0 => 0 | 72 => 53 | 37 => 51 | 127 => 107 | 3 => 3 | 5 => 5 | n => n, fun | n => n⟩
theorem Tryz.lays169 : Go.Proofs.Lays.n169 Tryz.prog Tryz.lays169_ren := {
  mixed := by kernel_rfl
  f169 := Tryz.func14.trans (congrArg some (by kernel_rfl))
  t0 := Tryz.underlying0
  a0 := Tryz.isAgg0
  z0 := Tryz.sizeOf0
  v0 := Tryz.zeroValue0
  t3 := Tryz.underlying3
  a3 := Tryz.isAgg3
  z3 := Tryz.sizeOf3
  v3 := Tryz.zeroValue3
  t9 := Tryz.underlying9
  a9 := Tryz.isAgg9
  z9 := Tryz.sizeOf9
  v9 := Tryz.zeroValue9
  t37 := Tryz.underlying51
  a37 := Tryz.isAgg51
  z37 := Tryz.sizeOf51
  v37 := Tryz.zeroValue51
  t70 := Tryz.underlying50
  a70 := Tryz.isAgg50
  z70 := Tryz.sizeOf50
  v70 := Tryz.zeroValue50
  t72 := Tryz.underlying53
  a72 := Tryz.isAgg53
  z72 := Tryz.sizeOf53
  v72 := Tryz.zeroValue53
  t127 := Tryz.underlying107
  a127 := Tryz.isAgg107
  z127 := Tryz.sizeOf107
  v127 := Tryz.zeroValue107 }
theorem Tryz.Builder_Extra_169 : Builder.Extra Tryz.prog Tryz.lays169_ren := {
  sizeBuilder := by kernel_rfl
  liesBuilder := by kernel_rfl
  t5 := Tryz.underlying5
  a5 := Tryz.isAgg5
  z5 := Tryz.sizeOf5
  v5 := Tryz.zeroValue5
  infoByte := by kernel_rfl
  cellsByte := by kernel_rfl
  sizeByte := by kernel_rfl
  neB5 := by decide }
open Go.RowKit in
theorem Tryz.Builder_String_k (B b : Nat) (l : List UInt8) (w : World) (h : Lib.IsBuilderF 53 5 B b (Lib.byteCells l) w) (h0 : l ≠ []) :
    Calls Tryz.prog 14 #[.pointer (some ⟨b, 0, none⟩)] w fun e w' => e = .returned (.string ⟨l.toArray⟩) ∧ (Lib.IsBuilderF 53 5 B b (Lib.byteCells l) w' ∧ Below B w w' ∧ Lib.OthersKept 5 (some b) w w') := Any.Builder_String_k Tryz.lays169 Tryz.Builder_Extra_169 B b l w h h0
def Tryz.laysM171_ren : Go.Shelf.Ren := ⟨fun | 171 => 146 | 243 => 162 | 246 => 170 | 283 => 178 | 284 => 179 | 285 => 180 | 286 => 181 | 129 => 186 | 317 => 185 | 318 => 187 | 319 => 188 | 320 => 189 | 337 => 190 | 338 => 191 | n => n, fun | 3 => 3 | 9 => 9 | 2 => 2 | 4 => 4 | 171 => 235 | 0 => 0 | 53 => 221 | 37 => 51 | 5 => 5 | 173 => 238 | 212 => 242 | 51 => 206 | 20 => 20 | 213 => 243 | 46 => 194 | 232 => 247 | 233 => 248 | n => n, fun | 17 => 5 | 18 => 6 | 19 => 7 | n => n⟩
theorem Tryz.laysM171 : Go.Proofs.LaysM.n171 Tryz.prog Tryz.laysM171_ren := {
  mixed := by kernel_rfl
  f129 := Tryz.func186.trans (congrArg some (by kernel_rfl))
  f171 := Tryz.func146.trans (congrArg some (by kernel_rfl))
  f243 := Tryz.func162.trans (congrArg some (by kernel_rfl))
  f246 := Tryz.func170.trans (congrArg some (by kernel_rfl))
  f283 := Tryz.func178.trans (congrArg some (by kernel_rfl))
  f284 := Tryz.func179.trans (congrArg some (by kernel_rfl))
  f285 := Tryz.func180.trans (congrArg some (by kernel_rfl))
  f286 := Tryz.func181.trans (congrArg some (by kernel_rfl))
  f317 := Tryz.func185.trans (congrArg some (by kernel_rfl))
  f318 := Tryz.func187.trans (congrArg some (by kernel_rfl))
  f319 := Tryz.func188.trans (congrArg some (by kernel_rfl))
  f320 := Tryz.func189.trans (congrArg some (by kernel_rfl))
  f337 := Tryz.func190.trans (congrArg some (by kernel_rfl))
  f338 := Tryz.func191.trans (congrArg some (by kernel_rfl))
  t0 := Tryz.underlying0
  a0 := Tryz.isAgg0
  z0 := Tryz.sizeOf0
  v0 := Tryz.zeroValue0
  t2 := Tryz.underlying2
  a2 := Tryz.isAgg2
  z2 := Tryz.sizeOf2
  v2 := Tryz.zeroValue2
  t3 := Tryz.underlying3
  a3 := Tryz.isAgg3
  z3 := Tryz.sizeOf3
  v3 := Tryz.zeroValue3
  t4 := Tryz.underlying4
  a4 := Tryz.isAgg4
  z4 := Tryz.sizeOf4
  v4 := Tryz.zeroValue4
  t5 := Tryz.underlying5
  a5 := Tryz.isAgg5
  z5 := Tryz.sizeOf5
  v5 := Tryz.zeroValue5
  t9 := Tryz.underlying9
  a9 := Tryz.isAgg9
  z9 := Tryz.sizeOf9
  v9 := Tryz.zeroValue9
  t20 := Tryz.underlying20
  a20 := Tryz.isAgg20
  z20 := Tryz.sizeOf20
  v20 := Tryz.zeroValue20
  t37 := Tryz.underlying51
  a37 := Tryz.isAgg51
  z37 := Tryz.sizeOf51
  v37 := Tryz.zeroValue51
  t46 := Tryz.underlying194
  a46 := Tryz.isAgg194
  z46 := Tryz.sizeOf194
  v46 := Tryz.zeroValue194
  t51 := Tryz.underlying206
  a51 := Tryz.isAgg206
  z51 := Tryz.sizeOf206
  v51 := Tryz.zeroValue206
  t53 := Tryz.underlying221
  a53 := Tryz.isAgg221
  z53 := Tryz.sizeOf221
  v53 := Tryz.zeroValue221
  t171 := Tryz.underlying235
  a171 := Tryz.isAgg235
  z171 := Tryz.sizeOf235
  v171 := Tryz.zeroValue235
  t173 := Tryz.underlying238
  a173 := Tryz.isAgg238
  z173 := Tryz.sizeOf238
  v173 := Tryz.zeroValue238
  t212 := Tryz.underlying242
  a212 := Tryz.isAgg242
  z212 := Tryz.sizeOf242
  v212 := Tryz.zeroValue242
  t213 := Tryz.underlying243
  a213 := Tryz.isAgg243
  z213 := Tryz.sizeOf243
  t232 := Tryz.underlying247
  a232 := Tryz.isAgg247
  z232 := Tryz.sizeOf247
  v232 := Tryz.zeroValue247
  t233 := Tryz.underlying248
  a233 := Tryz.isAgg248
  z233 := Tryz.sizeOf248
  v233 := Tryz.zeroValue248
  g17 := by kernel_rfl
  g18 := by kernel_rfl
  g19 := by kernel_rfl
  i0 := by kernel_rfl
  i2 := by kernel_rfl
  i3 := by kernel_rfl
  i4 := by kernel_rfl
  i5 := by kernel_rfl
  i9 := by kernel_rfl
  i20 := by kernel_rfl
  i37 := by kernel_rfl
  i46 := by kernel_rfl
  i51 := by kernel_rfl
  i53 := by kernel_rfl
  i171 := by kernel_rfl
  i173 := by kernel_rfl
  i212 := by kernel_rfl
  i232 := by kernel_rfl
  i233 := by kernel_rfl
  m17 := by kernel_rfl
  m18 := by kernel_rfl
  m19 := by kernel_rfl }
open Go.RowKit Go.Sort Go.Lib in
theorem Tryz.strconv_Itoa (n : Int) (h0 : -9223372036854775808 ≤ n) (h1 : n ≤ 9223372036854775807) (w : World) (htab : Lib.TabIs Tryz.prog w "internal/strconv.uint64pow10" .u64 Lib.pow10Tab) :
    Calls Tryz.prog 146 #[.int .i64 n] w fun e w' => e = .returned (.string ⟨(Lib.itoa n).toArray⟩) ∧ ∃ k os, w' = grow (w.drewN k) os := Any.strconv_Itoa Tryz.laysM171 n h0 h1 w htab
end Go.Proofs
