/- show's writer: a list of fields. show's writer: a list at vestry/api.Ctor. show's writer: lines at vestry/api.Init. show's writer: instance. show's writer: ctor. show's writer: on the way through a part. show's writer: a list at vestry/api.Expr. -/
import Derived.Test.YtccehgfecaamoaaGreatDoorQb21
import Derived.Test.YtccehgfecaamoaaGreatDoorQb11
import Derived.Deep.Cut
import Derived.Test.YtccehgfecaamoaaGreatDoorQb14
set_option maxRecDepth 100000
set_option maxHeartbeats 32000000
namespace Go.Proofs.YtccehgfecaamoaaGreatDoor
section
open Go.RowKit Go.Maps
def joinT (sep : Txt) : List Txt → Txt
 | [] => []
 | t :: ts => t ++ ts.flatMap (sep ++ ·)
theorem Qec (sep : Txt) (t : Txt) : ∀ ts : List Txt, joinT sep (ts ++ [t]) = if ts = [] then t else joinT sep ts ++ sep ++ t
 | [] => by simp [joinT]
 | x :: ts => by simp [joinT]
theorem Qge (sep : Txt) (ts us : List Txt) : (joinT sep ts).length ≤ (joinT sep (ts ++ us)).length := by
 cases ts with
 | nil => simp [joinT]
 | cons t ts => simp only [joinT, List.cons_append, List.flatMap_append, List.length_append]; omega
theorem WT.cut {c c1 t u : Txt} {lg : Bool} (h : WT c lg t c1 true) (hl : t.length ≤ u.length) : WT c lg u c1 true :=
 ⟨fun _ => rfl, (fun e hu => by have := (h.2.1 e (by omega)).2; cases this), fun _ _ => rfl⟩
theorem LsAt.len {α : Type} {p : PS α} {k : Nat} {S : Nat → Prop} {w : World} {v : Value} {xs : List α} (h : LsAt p k S w v xs) : xs.length ≤ 9223372036854775807 := by
 obtain ⟨_, cap, _, _, h1, h2, _⟩ := h
 exact Nat.le_trans h1 h2
def PtW (F B b : Nat) (v : Value) (t : Txt) : Prop := ∀ (w : World) (c : Txt) (lg : Bool), Wr B b c lg w → Calls Tryz.prog F #[.pointer (some ⟨b, 0, none⟩), v] w fun e w' => WrA B b c lg t w e w'
theorem Qke {B b : Nat} {c : Txt} {lg : Bool} {w : World} (h : Wr B b c lg w) (sep : ByteArray) (hsep : sep.size ≤ 64) {sa : Option Addr} {sc : Nat} {xs : List Fld} (hL : LsAt PF 2 (fun q => q < B) w (.slice sa xs.length sc) xs) (T : Fld → Txt) (hW : ∀ x ∈ xs, PtW 67 B b (.agg #[str x.name, str x.type]) (T x)) (hx : xs.length ≤ 9223372036854775807) :
  Calls Tryz.prog 66 #[.pointer (some ⟨b, 0, none⟩), .string sep, .slice sa xs.length sc, .func (.func 67) #[.pointer (some ⟨b, 0, none⟩)] #[]] w fun e w' => WrA B b c lg (joinT sep.data.toList (xs.map T)) w e w' := by
 have HH := hide h
 have HL := hide hL
 have HW := hide hW
 obtain ⟨n, hn⟩ : ∃ n, xs.length = n := ⟨_, rfl⟩
 rw [hn]
 have HN := hide hn
 have hn6 : n ≤ 9223372036854775807 := by omega
 clear h hL hW hn hx
 go_enter Tryz.func66, Tryz.ntmps66
 go_wp2_with fail
 go_loopw [12] (fun v wr => ∃ (j : Nat) (c1 : Txt) (l1 : Bool), v = .int .i64 (j : Int) ∧ j ≤ n ∧ Hid (Kept B b w wr ∧ Wr B b c1 l1 wr ∧ WT c lg (joinT sep.data.toList ((xs.map T).take j)) c1 l1)) (fun v _ => n - (intOf v).toNat)
 case atStart => exact ⟨0, c, lg, rfl, Nat.zero_le _, hide ⟨Kept.refl _ _ _, Qa HH, WT.refl _ _ (Qa HH).few⟩⟩
 obtain ⟨j, c1, l1, rfl, hj, HI⟩ := hrel
 by_cases hlt : j < n
 ·
  obtain ⟨x, hxj⟩ : ∃ x, xs[j]? = some x := ⟨xs[j]'(by rw [Qa HN]; exact hlt), List.getElem?_eq_getElem _⟩
  obtain ⟨gb, cap, cs, e1, hgb, hS, _, hcs, hc⟩ := ((Qa HL).same Qbv (Qa HI).1.below.size (fun q hq _ => (Qa HI).1.below.block q hq)).elem hxj
  obtain rfl : cs = [str x.name, str x.type] := hcs
  simp only [Value.slice.injEq] at e1
  obtain ⟨rfl, -, -⟩ := e1
  have x0 : wr.cell? ⟨gb, j * 2, none⟩ = some (str x.name) := hc 0 _ rfl
  have x1 : wr.cell? ⟨gb, j * 2 + 1, none⟩ = some (str x.type) := hc 1 _ rfl
  have hwx := Qa HW x (List.mem_of_getElem? hxj)
  have htk : (xs.map T).take (j + 1) = (xs.map T).take j ++ [T x] := by rw [List.take_add_one, List.getElem?_map, hxj]; rfl
  have htn : j ≠ 0 → (xs.map T).take j ≠ [] := fun h0 e => by
   have := congrArg List.length e
   rw [List.length_take, List.length_map, Qa HN] at this
   simp at this
   omega
  have hB : B ≤ wr.heap.size := Nat.le_trans (Qa HI).2.1.le (Nat.le_of_lt (Qa HI).2.1.lt)
  obtain ⟨xb, hxb⟩ : ∃ xb, wr.heap.size = xb := ⟨_, rfl⟩
  obtain ⟨w2, hw2⟩ : ∃ w2, w2 = wr.alloc (.cells #[str x.name, str x.type] 138) := ⟨_, rfl⟩
  have b2 : Below wr.heap.size wr w2 := bnw hw2
  have n2 : w2.heap[xb]? = some (.cells #[str x.name, str x.type] 138 (0, 0)) := by rw [hw2, ← hxb]; exact heap_alloc_new wr _
  have h2 := (Qa HI).2.1.later b2
  have k2 := (Qa HI).1.trans (Kept.later (b := b) hB b2)
  obtain ⟨p, v, hbx, _⟩ := h2.box
  obtain ⟨_, _, u2, _, uf⟩ := cl3w hbx
  have hxne : xb ≠ b := by have := (Qa HI).2.1.lt; omega
  have HW2 := hide (Ya hw2 hxb)
  have HK := hide (Ya k2 (Ya h2 (Ya n2 hxne)))
  have HTK := hide (Ya htk htn)
  have HWX := hide hwx
  clear hgb hS hc hxj hwx htk htn hB hxb hw2 b2 n2 h2 k2 hbx hxne
  cases l1
  ·
   by_cases h0 : j = 0
   ·
    have g0 : ¬ ((0 : Int) < (j : Int)) := by omega
    obtain ⟨y0, y1⟩ : w2.cell? ⟨xb, 0, none⟩ = some (str x.name) ∧ w2.cell? ⟨xb, 1, none⟩ = some (str x.type) := ⟨(Qab (Qa HK).2.2.1 0).trans rfl, (Qab (Qa HK).2.2.1 1).trans rfl⟩
    have hcl := Qa HWX w2 c1 false (Qa HK).2.1
    have H0 := hide h0
    clear h0
    go_upto_region 3 with fail
    rw [← (Qa HW2).1, (Qa HW2).2]
    go_wp2_with fail
    refine hcl.mono ?_
    clear hcl
    rintro en w3 ⟨rfl, k3, c3, l3, h3, t3⟩
    have H3 := hide (Ya k3 (Ya h3 t3))
    clear k3 h3 t3
    go_wp2_with fail
    go_roundw
    case rel =>
     obtain ⟨k3, h3, t3⟩ := Qa H3
     refine ⟨j + 1, c3, l3, by go_num, by omega, hide ⟨(Qa HK).1.trans k3, h3, ?_⟩⟩
     rw [(Qa HTK).1, Qa H0, List.take_zero]
     have q := (Qa HI).2.2
     rw [Qa H0, List.take_zero] at q
     have := q.trans t3
     simpa [joinT] using this
    case measure => simp [intOf]; omega
   have g0 : (0 : Int) < (j : Int) := by omega
   have had := Qbn (Qa HK).2.1 sep (by omega)
   have H0 := hide h0
   clear h0
   go_upto_region 3 with fail
   rw [← (Qa HW2).1, (Qa HW2).2]
   go_wp2_with fail
   refine had.mono ?_
   clear had
   rintro en w3 ⟨rfl, k3, c3, l3, h3, t3⟩
   have n3 : w3.heap[xb]? = some (.cells #[str x.name, str x.type] 138 (0, 0)) := k3.others xb _ (Qa HK).2.2.1 (fun e => (Qa HK).2.2.2 (by simpa using e)) (fun c fz e => by cases e)
   obtain ⟨y0, y1⟩ : w3.cell? ⟨xb, 0, none⟩ = some (str x.name) ∧ w3.cell? ⟨xb, 1, none⟩ = some (str x.type) := ⟨(Qab n3 0).trans rfl, (Qab n3 1).trans rfl⟩
   have hcl := Qa HWX w3 c3 l3 h3
   have H3 := hide (Ya k3 t3)
   clear k3 h3 t3 n3
   go_wp2_with fail
   refine hcl.mono ?_
   clear hcl
   rintro en w4 ⟨rfl, k4, c4, l4, h4, t4⟩
   have H4 := hide (Ya k4 (Ya h4 t4))
   clear k4 h4 t4
   go_wp2_with fail
   go_roundw
   case rel =>
    obtain ⟨k3, t3⟩ := Qa H3
    obtain ⟨k4, h4, t4⟩ := Qa H4
    refine ⟨j + 1, c4, l4, by go_num, by omega, hide ⟨((Qa HK).1.trans k3).trans k4, h4, ?_⟩⟩
    rw [(Qa HTK).1, Qec, if_neg ((Qa HTK).2 (Qa H0))]
    exact ((Qa HI).2.2.trans t3).trans t4
   case measure => simp [intOf]; omega
  go_upto_region 3 with fail
  rw [← (Qa HW2).1, (Qa HW2).2]
  go_wp2_with fail
  go_end0
  obtain ⟨k2, h2, _⟩ := Qa HK
  refine ⟨rfl, k2, c1, true, h2, (Qa HI).2.2.cut ?_⟩
  have := Qge sep.data.toList ((xs.map T).take j) ((xs.map T).drop j)
  rwa [List.take_append_drop] at this
 have ej : j = n := by omega
 have HE := hide (show (xs.map T).take j = xs.map T by rw [ej, ← Qa HN, ← List.length_map (f := T)]; exact List.take_length)
 clear ej
 go_wp2_with fail
 go_end0
 refine ⟨rfl, (Qa HI).1, c1, l1, (Qa HI).2.1, ?_⟩
 have := (Qa HI).2.2
 rw [Qa HE] at this
 exact this
end
section
open Go.RowKit Go.Maps
def PtM {α : Type} (F B b : Nat) (p : PS α) (x : α) (t : Txt) : Prop := ∀ (w : World) (c : Txt) (lg : Bool) (cs : List Value), p (fun q => q < B) w cs x → Wr B b c lg w → Calls Tryz.prog F #[.pointer (some ⟨b, 0, none⟩), .agg cs.toArray] w fun e w' => WrA B b c lg t w e w'
theorem Quc {B b : Nat} {c : Txt} {lg : Bool} {w : World} (h : Wr B b c lg w) (sep : ByteArray) (hsep : sep.size ≤ 64) {sa : Option Addr} {sc : Nat} {xs : List Ctr} (hL : LsAt PC 2 (fun q => q < B) w (.slice sa xs.length sc) xs) (T : Ctr → Txt) (hW : ∀ x ∈ xs, PtM 65 B b PC x (T x)) (hx : xs.length ≤ 9223372036854775807) :
  Calls Tryz.prog 64 #[.pointer (some ⟨b, 0, none⟩), .string sep, .slice sa xs.length sc, .func (.func 65) #[.pointer (some ⟨b, 0, none⟩)] #[]] w fun e w' => WrA B b c lg (joinT sep.data.toList (xs.map T)) w e w' := by
 have HH := hide h
 have HL := hide hL
 have HW := hide hW
 obtain ⟨n, hn⟩ : ∃ n, xs.length = n := ⟨_, rfl⟩
 rw [hn]
 have HN := hide hn
 have hn6 : n ≤ 9223372036854775807 := by omega
 clear h hL hW hn hx
 go_enter Tryz.func64, Tryz.ntmps64
 go_wp2_with fail
 go_loopw [12] (fun v wr => ∃ (j : Nat) (c1 : Txt) (l1 : Bool), v = .int .i64 (j : Int) ∧ j ≤ n ∧ Hid (Kept B b w wr ∧ Wr B b c1 l1 wr ∧ WT c lg (joinT sep.data.toList ((xs.map T).take j)) c1 l1)) (fun v _ => n - (intOf v).toNat)
 case atStart => exact ⟨0, c, lg, rfl, Nat.zero_le _, hide ⟨Kept.refl _ _ _, Qa HH, WT.refl _ _ (Qa HH).few⟩⟩
 obtain ⟨j, c1, l1, rfl, hj, HI⟩ := hrel
 by_cases hlt : j < n
 ·
  obtain ⟨x, hxj⟩ : ∃ x, xs[j]? = some x := ⟨xs[j]'(by rw [Qa HN]; exact hlt), List.getElem?_eq_getElem _⟩
  obtain ⟨gb, cap, cs, e1, hgb, hS, _, hcs, hc⟩ := ((Qa HL).same Qex (Qa HI).1.below.size (fun q hq _ => (Qa HI).1.below.block q hq)).elem hxj
  have HCS := hide hcs
  obtain ⟨xa, xn, xc, rfl, _⟩ := hcs
  simp only [Value.slice.injEq] at e1
  obtain ⟨rfl, -, -⟩ := e1
  have x0 : wr.cell? ⟨gb, j * 2, none⟩ = some (str x.name) := hc 0 _ rfl
  have x1 : wr.cell? ⟨gb, j * 2 + 1, none⟩ = some (.slice xa xn xc) := hc 1 _ rfl
  have hwx := Qa HW x (List.mem_of_getElem? hxj)
  have htk : (xs.map T).take (j + 1) = (xs.map T).take j ++ [T x] := by rw [List.take_add_one, List.getElem?_map, hxj]; rfl
  have htn : j ≠ 0 → (xs.map T).take j ≠ [] := fun h0 e => by
   have := congrArg List.length e
   rw [List.length_take, List.length_map, Qa HN] at this
   simp at this
   omega
  have hB : B ≤ wr.heap.size := Nat.le_trans (Qa HI).2.1.le (Nat.le_of_lt (Qa HI).2.1.lt)
  obtain ⟨xb, hxb⟩ : ∃ xb, wr.heap.size = xb := ⟨_, rfl⟩
  obtain ⟨w2, hw2⟩ : ∃ w2, w2 = wr.alloc (.cells #[str x.name, .slice xa xn xc] 119) := ⟨_, rfl⟩
  have b2 : Below wr.heap.size wr w2 := bnw hw2
  have n2 : w2.heap[xb]? = some (.cells #[str x.name, .slice xa xn xc] 119 (0, 0)) := by rw [hw2, ← hxb]; exact heap_alloc_new wr _
  have h2 := (Qa HI).2.1.later b2
  have k2 := (Qa HI).1.trans (Kept.later (b := b) hB b2)
  obtain ⟨p, v, hbx, _⟩ := h2.box
  obtain ⟨_, _, u2, _, uf⟩ := cl3w hbx
  have hxne : xb ≠ b := by have := (Qa HI).2.1.lt; omega
  have HW2 := hide (Ya hw2 hxb)
  have q2 : PC (fun q => q < B) w2 [str x.name, .slice xa xn xc] x := Qex.same _ _ _ _ _ (Qa HCS) b2.size (fun q _ hl => b2.block q hl)
  have HK := hide (Ya k2 (Ya h2 (Ya n2 hxne)))
  have HQ := hide q2
  have HTK := hide (Ya htk htn)
  have HWX := hide hwx
  clear q2 HCS hgb hS hc hxj hwx htk htn hB hxb hw2 b2 n2 h2 k2 hbx hxne
  cases l1
  ·
   by_cases h0 : j = 0
   ·
    have g0 : ¬ ((0 : Int) < (j : Int)) := by omega
    obtain ⟨y0, y1⟩ : w2.cell? ⟨xb, 0, none⟩ = some (str x.name) ∧ w2.cell? ⟨xb, 1, none⟩ = some (.slice xa xn xc) := ⟨(Qab (Qa HK).2.2.1 0).trans rfl, (Qab (Qa HK).2.2.1 1).trans rfl⟩
    have hcl := Qa HWX w2 c1 false [str x.name, .slice xa xn xc] (Qa HQ) (Qa HK).2.1
    have H0 := hide h0
    clear h0
    go_upto_region 3 with fail
    rw [← (Qa HW2).1, (Qa HW2).2]
    go_wp2_with fail
    refine hcl.mono ?_
    clear hcl
    rintro en w3 ⟨rfl, k3, c3, l3, h3, t3⟩
    have H3 := hide (Ya k3 (Ya h3 t3))
    clear k3 h3 t3
    go_wp2_with fail
    go_roundw
    case rel =>
     obtain ⟨k3, h3, t3⟩ := Qa H3
     refine ⟨j + 1, c3, l3, by go_num, by omega, hide ⟨(Qa HK).1.trans k3, h3, ?_⟩⟩
     rw [(Qa HTK).1, Qa H0, List.take_zero]
     have q := (Qa HI).2.2
     rw [Qa H0, List.take_zero] at q
     have := q.trans t3
     simpa [joinT] using this
    case measure => simp [intOf]; omega
   have g0 : (0 : Int) < (j : Int) := by omega
   have had := Qbn (Qa HK).2.1 sep (by omega)
   have H0 := hide h0
   clear h0
   go_upto_region 3 with fail
   rw [← (Qa HW2).1, (Qa HW2).2]
   go_wp2_with fail
   refine had.mono ?_
   clear had
   rintro en w3 ⟨rfl, k3, c3, l3, h3, t3⟩
   have n3 : w3.heap[xb]? = some (.cells #[str x.name, .slice xa xn xc] 119 (0, 0)) := k3.others xb _ (Qa HK).2.2.1 (fun e => (Qa HK).2.2.2 (by simpa using e)) (fun c fz e => by cases e)
   obtain ⟨y0, y1⟩ : w3.cell? ⟨xb, 0, none⟩ = some (str x.name) ∧ w3.cell? ⟨xb, 1, none⟩ = some (.slice xa xn xc) := ⟨(Qab n3 0).trans rfl, (Qab n3 1).trans rfl⟩
   have hcl := Qa HWX w3 c3 l3 [str x.name, .slice xa xn xc] (Qex.same _ _ _ _ _ (Qa HQ) k3.below.size (fun q hq _ => k3.below.block q hq)) h3
   have H3 := hide (Ya k3 t3)
   clear k3 h3 t3 n3
   go_wp2_with fail
   refine hcl.mono ?_
   clear hcl
   rintro en w4 ⟨rfl, k4, c4, l4, h4, t4⟩
   have H4 := hide (Ya k4 (Ya h4 t4))
   clear k4 h4 t4
   go_wp2_with fail
   go_roundw
   case rel =>
    obtain ⟨k3, t3⟩ := Qa H3
    obtain ⟨k4, h4, t4⟩ := Qa H4
    refine ⟨j + 1, c4, l4, by go_num, by omega, hide ⟨((Qa HK).1.trans k3).trans k4, h4, ?_⟩⟩
    rw [(Qa HTK).1, Qec, if_neg ((Qa HTK).2 (Qa H0))]
    exact ((Qa HI).2.2.trans t3).trans t4
   case measure => simp [intOf]; omega
  go_upto_region 3 with fail
  rw [← (Qa HW2).1, (Qa HW2).2]
  go_wp2_with fail
  go_end0
  obtain ⟨k2, h2, _⟩ := Qa HK
  refine ⟨rfl, k2, c1, true, h2, (Qa HI).2.2.cut ?_⟩
  have := Qge sep.data.toList ((xs.map T).take j) ((xs.map T).drop j)
  rwa [List.take_append_drop] at this
 have ej : j = n := by omega
 have HE := hide (show (xs.map T).take j = xs.map T by rw [ej, ← Qa HN, ← List.length_map (f := T)]; exact List.take_length)
 clear ej
 go_wp2_with fail
 go_end0
 refine ⟨rfl, (Qa HI).1, c1, l1, (Qa HI).2.1, ?_⟩
 have := (Qa HI).2.2
 rw [Qa HE] at this
 exact this
end
section
open Go.RowKit Go.Maps
def linesT (ts : List Txt) : Txt := ts.flatMap (· ++ [10])
theorem Qdm (ts : List Txt) (t : Txt) : linesT (ts ++ [t]) = linesT ts ++ (t ++ [10]) := by simp [linesT]
theorem Qfb (ts us : List Txt) : (linesT ts).length ≤ (linesT (ts ++ us)).length := by simp only [linesT, List.flatMap_append, List.length_append]; omega
theorem Qpw {B b : Nat} {c : Txt} {lg : Bool} {w : World} (h : Wr B b c lg w) {sa : Option Addr} {sc : Nat} {xs : List Ini} (hL : LsAt PIn 3 (fun q => q < B) w (.slice sa xs.length sc) xs) (T : Ini → Txt) (hW : ∀ x ∈ xs, PtM 33 B b PIn x (T x)) (hx : xs.length ≤ 9223372036854775807) :
  Calls Tryz.prog 32 #[.pointer (some ⟨b, 0, none⟩), .slice sa xs.length sc, .func (.func 33) #[.pointer (some ⟨b, 0, none⟩)] #[]] w fun e w' => WrA B b c lg (linesT (xs.map T)) w e w' := by
 have HH := hide h
 have HL := hide hL
 have HW := hide hW
 obtain ⟨n, hn⟩ : ∃ n, xs.length = n := ⟨_, rfl⟩
 rw [hn]
 have HN := hide hn
 have hn6 : n ≤ 9223372036854775807 := by omega
 clear h hL hW hn hx
 go_enter Tryz.func32, Tryz.ntmps32
 go_wp2_with fail
 go_loopw [10] (fun v wr => ∃ (j : Nat) (c1 : Txt) (l1 : Bool), v = .int .i64 (j : Int) ∧ j ≤ n ∧ Hid (Kept B b w wr ∧ Wr B b c1 l1 wr ∧ WT c lg (linesT ((xs.map T).take j)) c1 l1)) (fun v _ => n - (intOf v).toNat)
 case atStart => exact ⟨0, c, lg, rfl, Nat.zero_le _, hide ⟨Kept.refl _ _ _, Qa HH, WT.refl _ _ (Qa HH).few⟩⟩
 obtain ⟨j, c1, l1, rfl, hj, HI⟩ := hrel
 by_cases hlt : j < n
 ·
  obtain ⟨x, hxj⟩ : ∃ x, xs[j]? = some x := ⟨xs[j]'(by rw [Qa HN]; exact hlt), List.getElem?_eq_getElem _⟩
  obtain ⟨gb, cap, cs, e1, hgb, hS, _, hcs, hc⟩ := ((Qa HL).same Qbw (Qa HI).1.below.size (fun q hq _ => (Qa HI).1.below.block q hq)).elem hxj
  have HCS := hide hcs
  obtain rfl : cs = [str x.name, str x.comp, .int .i64 x.at_] := hcs
  simp only [Value.slice.injEq] at e1
  obtain ⟨rfl, -, -⟩ := e1
  have x0 : wr.cell? ⟨gb, j * 3, none⟩ = some (str x.name) := hc 0 _ rfl
  have x1 : wr.cell? ⟨gb, j * 3 + 1, none⟩ = some (str x.comp) := hc 1 _ rfl
  have x2 : wr.cell? ⟨gb, j * 3 + 2, none⟩ = some (.int .i64 x.at_) := hc 2 _ rfl
  have hwx := Qa HW x (List.mem_of_getElem? hxj)
  have htk : (xs.map T).take (j + 1) = (xs.map T).take j ++ [T x] := by rw [List.take_add_one, List.getElem?_map, hxj]; rfl
  have hB : B ≤ wr.heap.size := Nat.le_trans (Qa HI).2.1.le (Nat.le_of_lt (Qa HI).2.1.lt)
  obtain ⟨xb, hxb⟩ : ∃ xb, wr.heap.size = xb := ⟨_, rfl⟩
  obtain ⟨w2, hw2⟩ : ∃ w2, w2 = wr.alloc (.cells #[str x.name, str x.comp, .int .i64 x.at_] 77) := ⟨_, rfl⟩
  have b2 : Below wr.heap.size wr w2 := bnw hw2
  have n2 : w2.heap[xb]? = some (.cells #[str x.name, str x.comp, .int .i64 x.at_] 77 (0, 0)) := by rw [hw2, ← hxb]; exact heap_alloc_new wr _
  have h2 := (Qa HI).2.1.later b2
  have k2 := (Qa HI).1.trans (Kept.later (b := b) hB b2)
  have q2 : PIn (fun q => q < B) w2 [str x.name, str x.comp, .int .i64 x.at_] x := Qbw.same _ _ _ _ _ (Qa HCS) b2.size (fun q _ hl => b2.block q hl)
  obtain ⟨p, v, hbx, _⟩ := h2.box
  obtain ⟨_, _, u2, _, uf⟩ := cl3w hbx
  obtain ⟨y0, y1, y2⟩ : w2.cell? ⟨xb, 0, none⟩ = some (str x.name) ∧ w2.cell? ⟨xb, 1, none⟩ = some (str x.comp) ∧ w2.cell? ⟨xb, 2, none⟩ = some (.int .i64 x.at_) := ⟨(Qab n2 0).trans rfl, (Qab n2 1).trans rfl, (Qab n2 2).trans rfl⟩
  have HW2 := hide (Ya hw2 hxb)
  have HK := hide (Ya k2 h2)
  have HTK := hide htk
  have hcl := hwx w2 c1 l1 [str x.name, str x.comp, .int .i64 x.at_] q2 h2
  clear q2 HCS hgb hS hc hxj hwx htk hB hxb hw2 b2 n2 h2 k2 hbx
  cases l1
  ·
   go_upto_region 3 with fail
   rw [← (Qa HW2).1, (Qa HW2).2]
   go_wp2_with fail
   refine hcl.mono ?_
   clear hcl
   rintro en w3 ⟨rfl, k3, c3, l3, h3, t3⟩
   have had := Qbn h3 ⟨#[10]⟩ (by decide)
   have H3 := hide (Ya k3 t3)
   clear k3 h3 t3
   go_wp2_with fail
   refine had.mono ?_
   clear had
   rintro en w4 ⟨rfl, k4, c4, l4, h4, t4⟩
   have H4 := hide (Ya k4 (Ya h4 t4))
   clear k4 h4 t4
   go_wp2_with fail
   go_roundw
   case rel =>
    obtain ⟨k3, t3⟩ := Qa H3
    obtain ⟨k4, h4, t4⟩ := Qa H4
    refine ⟨j + 1, c4, l4, by go_num, by omega, hide ⟨((Qa HK).1.trans k3).trans k4, h4, ?_⟩⟩
    rw [Qa HTK, Qdm]
    exact (Qa HI).2.2.trans (t3.trans t4)
   case measure => simp [intOf]; omega
  go_upto_region 3 with fail
  rw [← (Qa HW2).1, (Qa HW2).2]
  go_wp2_with fail
  go_end0
  obtain ⟨k2, h2⟩ := Qa HK
  refine ⟨rfl, k2, c1, true, h2, (Qa HI).2.2.cut ?_⟩
  have := Qfb ((xs.map T).take j) ((xs.map T).drop j)
  rwa [List.take_append_drop] at this
 have ej : j = n := by omega
 have HE := hide (show (xs.map T).take j = xs.map T by rw [ej, ← Qa HN, ← List.length_map (f := T)]; exact List.take_length)
 clear ej
 go_wp2_with fail
 go_end0
 refine ⟨rfl, (Qa HI).1, c1, l1, (Qa HI).2.1, ?_⟩
 have := (Qa HI).2.2
 rw [Qa HE] at this
 exact this
end
section
open Go.RowKit Go.Maps
def inT (x : Ini) : Txt := [46, 105, 110, 105, 116, 32] ++ x.name ++ [32, 61, 32] ++ x.comp
theorem Qzn {B b : Nat} (x : Ini) (h1 : x.name.length ≤ 140737488355328) (h2 : x.comp.length ≤ 140737488355328) : PtM 33 B b PIn x (inT x) := by
 intro w c lg cs hcs h
 obtain rfl : cs = [str x.name, str x.comp, .int .i64 x.at_] := hcs
 have hlt := h.lt
 have hB : B ≤ w.heap.size := Nat.le_trans h.le (Nat.le_of_lt hlt)
 obtain ⟨w1, hw1⟩ : ∃ w1, w1 = w.alloc (.cells #[str x.name, str x.comp, .int .i64 x.at_] 77) := ⟨_, rfl⟩
 have b1 : Below w.heap.size w w1 := bnw hw1
 have n1 : w1.heap[w.heap.size]? = some (.cells #[str x.name, str x.comp, .int .i64 x.at_] 77 (0, 0)) := nnw hw1
 have s1 : w1.heap.size = w.heap.size + 1 := by rw [hw1]; simp
 obtain ⟨w2, hw2⟩ : ∃ w2, w2 = w1.alloc (.cells #[.string ⟨#[46, 105, 110, 105, 116, 32]⟩, str x.name, .string ⟨#[32, 61, 32]⟩, str x.comp] 9) := ⟨_, rfl⟩
 have b2 : Below w1.heap.size w1 w2 := bnw hw2
 have n2 : w2.heap[w.heap.size + 1]? = some (.cells #[.string ⟨#[46, 105, 110, 105, 116, 32]⟩, str x.name, .string ⟨#[32, 61, 32]⟩, str x.comp] 9 (0, 0)) := by rw [hw2, ← s1]; exact heap_alloc_new w1 _
 have bw : Below w.heap.size w w2 := b1.trans (b2.mono (by omega))
 have hT : TsB b (w.heap.size + 1) w2 [[46, 105, 110, 105, 116, 32], x.name, [32, 61, 32], x.comp] := ⟨_, n2, by omega, fun j t hj => by
  match j, hj with
  | 0, hj => cases hj; rfl
  | 1, hj => cases hj; rfl
  | 2, hj => cases hj; rfl
  | 3, hj => cases hj; rfl
  | j + 4, hj => simp at hj⟩
 have hp := Qhw (cap := 4) (h.later bw) hT (fun t ht => by
  simp only [List.mem_cons, List.not_mem_nil, or_false] at ht
  rcases ht with rfl | rfl | rfl | rfl
  · decide
  · exact h1
  · decide
  · exact h2) (by simp)
 have HE := hide (Kept.later (b := b) hB bw)
 obtain ⟨x0, x1, xf⟩ : w1.cell? ⟨w.heap.size, 0, none⟩ = some (str x.name) ∧ w1.cell? ⟨w.heap.size, 1, none⟩ = some (str x.comp) ∧ ∀ o, w1.frozen? ⟨w.heap.size, o, none⟩ = false := ⟨(Qab n1 0).trans rfl, (Qab n1 1).trans rfl, fun o => by simp [World.frozen?, n1]⟩
 have HW1 := hide hw1
 have HW2 := hide (Ya hw2 s1)
 clear h h1 h2 hlt hB hw1 b1 n1 s1 hw2 b2 n2 bw hT
 go_enter Tryz.func33, Tryz.ntmps33
 go_wp2_with fail
 rw [← Qa HW1]
 go_wp2_with fail
 rw [← (Qa HW2).1]
 refine hp.mono ?_
 clear hp
 intro en w3 h3
 have H3 := hide h3
 obtain ⟨rfl, _⟩ := h3
 go_wp2_with fail
 go_end0
 have h3 := (Qa H3).from (Qa HE)
 have e : inT x = [[46, 105, 110, 105, 116, 32], x.name, [32, 61, 32], x.comp].flatten := by simp [inT]
 rw [e]
 exact h3
end
section
open Go.RowKit Go.Maps
def ctT (x : Ctr) : Txt := (x.name ++ [32, 123]) ++ joinT [44, 32] (x.fields.map fdT) ++ [125]
def Sh (t : Txt) : Prop := t.length ≤ 140737488355328
theorem Qzl {B b : Nat} (x : Ctr) (h1 : Sh x.name) (h2 : ∀ f ∈ x.fields, Sh f.name ∧ Sh f.type) : PtM 65 B b PC x (ctT x) := by
 intro w c lg cs hcs h
 obtain ⟨xa, xn, xc, rfl, hfl⟩ := hcs
 obtain ⟨_, _, e⟩ := hfl.sl
 cases e
 have h3 := hfl.len
 have hlt := h.lt
 have hB : B ≤ w.heap.size := Nat.le_trans h.le (Nat.le_of_lt hlt)
 obtain ⟨xn, hxn⟩ : ∃ xn, x.fields.length = xn := ⟨_, rfl⟩
 obtain ⟨w1, hw1⟩ : ∃ w1, w1 = w.alloc (.cells #[str x.name, .slice xa x.fields.length xc] 119) := ⟨_, rfl⟩
 have b1 : Below w.heap.size w w1 := bnw hw1
 have n1 : w1.heap[w.heap.size]? = some (.cells #[str x.name, .slice xa x.fields.length xc] 119 (0, 0)) := nnw hw1
 have s1 : w1.heap.size = w.heap.size + 1 := by rw [hw1]; simp
 obtain ⟨w2, hw2⟩ : ∃ w2, w2 = w1.alloc (.cells #[str x.name, .string ⟨#[32, 123]⟩] 9) := ⟨_, rfl⟩
 have b2 : Below w1.heap.size w1 w2 := bnw hw2
 have n2 : w2.heap[w.heap.size + 1]? = some (.cells #[str x.name, .string ⟨#[32, 123]⟩] 9 (0, 0)) := by rw [hw2, ← s1]; exact heap_alloc_new w1 _
 have bw : Below w.heap.size w w2 := b1.trans (b2.mono (by omega))
 have hT : TsB b (w.heap.size + 1) w2 [x.name, [32, 123]] := ⟨_, n2, by omega, fun j t hj => by
  match j, hj with
  | 0, hj => cases hj; rfl
  | 1, hj => cases hj; rfl
  | j + 2, hj => simp at hj⟩
 have hp := Qhw (cap := 2) (h.later bw) hT (fun t ht => by
  simp only [List.mem_cons, List.not_mem_nil, or_false] at ht
  rcases ht with rfl | rfl
  · exact h1
  · decide) (by simp)
 have kw := Kept.later (b := b) hB bw
 have n12 := (b2.block _ (by omega)).trans n1
 have HE := hide (Ya kw (Ya n12 (Ya hfl (Ya h2 (Ya h3 hlt)))))
 obtain ⟨x0, xf⟩ : w1.cell? ⟨w.heap.size, 0, none⟩ = some (str x.name) ∧ ∀ o, w1.frozen? ⟨w.heap.size, o, none⟩ = false := ⟨(Qab n1 0).trans rfl, fun o => by simp [World.frozen?, n1]⟩
 have HW1 := hide hw1
 have HW2 := hide (Ya hw2 s1)
 clear h h1 h2 h3 hlt hB hw1 b1 n1 s1 hw2 b2 n2 bw hT kw n12 hfl hxn
 go_enter Tryz.func65, Tryz.ntmps65
 go_wp2_with fail
 rw [← Qa HW1]
 go_wp2_with fail
 rw [← (Qa HW2).1]
 refine hp.mono ?_
 clear hp HW1 HW2 x0 xf
 rintro en w3 ⟨rfl, k3, c3, l3, g3, t3⟩
 obtain ⟨kw, n12, hfl, h2, h3, hlt⟩ := Qa HE
 have n3 : w3.heap[w.heap.size]? = some (.cells #[str x.name, .slice xa x.fields.length xc] 119 (0, 0)) := k3.others _ _ n12 (fun e => by simp at e; omega) (fun c fz e => by cases e)
 have x1 := (Qab n3 1).trans (show #[str x.name, Value.slice xa x.fields.length xc][1]? = some (.slice xa x.fields.length xc) from rfl)
 have kw3 := kw.trans k3
 have hls := Qke g3 ⟨#[44, 32]⟩ (by decide) (hfl.same Qbv kw3.below.size (fun q hq _ => kw3.below.block q hq)) fdT (fun f hf w c lg hw => Qkc hw f (h2 f hf).1 (h2 f hf).2) h3
 have H3 := hide (Ya kw3 t3)
 clear k3 g3 t3 n3 kw3 kw n12 hfl h2 h3 hlt
 go_wp2_with fail
 refine hls.mono ?_
 clear hls
 rintro en w4 ⟨rfl, k4, c4, l4, g4, t4⟩
 have had := Qbn g4 ⟨#[125]⟩ (by decide)
 have H4 := hide (Ya k4 t4)
 clear k4 g4 t4
 go_wp2_with fail
 refine had.mono ?_
 clear had
 rintro en w5 ⟨rfl, k5, c5, l5, g5, t5⟩
 have H5 := hide (Ya k5 (Ya g5 t5))
 clear k5 g5 t5
 go_wp2_with fail
 go_end0
 obtain ⟨kw3, t3⟩ := Qa H3
 obtain ⟨k4, t4⟩ := Qa H4
 obtain ⟨k5, g5, t5⟩ := Qa H5
 refine ⟨rfl, (kw3.trans k4).trans k5, c5, l5, g5, ?_⟩
 have := (t3.trans t4).trans t5
 simpa [ctT] using this
end
section
open Go.RowKit Go.Maps
theorem cx3 {w : World} {b : Nat} {T : TypeId} {v0 v1 v2 : Value} (h : w.heap[b]? = some (.cells #[v0, v1, v2] T (0, 0))) : w.cell? ⟨b, 0, none⟩ = some v0 ∧ w.cell? ⟨b, 1, none⟩ = some v1 ∧ w.cell? ⟨b, 2, none⟩ = some v2 := ⟨(Qab h 0).trans rfl, (Qab h 1).trans rfl, (Qab h 2).trans rfl⟩
theorem cx4 {w : World} {b : Nat} {T : TypeId} {v0 v1 v2 v3 : Value} (h : w.heap[b]? = some (.cells #[v0, v1, v2, v3] T (0, 0))) : w.cell? ⟨b, 0, none⟩ = some v0 ∧ w.cell? ⟨b, 1, none⟩ = some v1 ∧ w.cell? ⟨b, 2, none⟩ = some v2 ∧ w.cell? ⟨b, 3, none⟩ = some v3 := ⟨(Qab h 0).trans rfl, (Qab h 1).trans rfl, (Qab h 2).trans rfl, (Qab h 3).trans rfl⟩
theorem cx5 {w : World} {b : Nat} {T : TypeId} {v0 v1 v2 v3 v4 : Value} (h : w.heap[b]? = some (.cells #[v0, v1, v2, v3, v4] T (0, 0))) : w.cell? ⟨b, 0, none⟩ = some v0 ∧ w.cell? ⟨b, 1, none⟩ = some v1 ∧ w.cell? ⟨b, 2, none⟩ = some v2 ∧ w.cell? ⟨b, 3, none⟩ = some v3 ∧ w.cell? ⟨b, 4, none⟩ = some v4 := ⟨(Qab h 0).trans rfl, (Qab h 1).trans rfl, (Qab h 2).trans rfl, (Qab h 3).trans rfl, (Qab h 4).trans rfl⟩
theorem cx8 {w : World} {b : Nat} {T : TypeId} {v0 v1 v2 v3 v4 v5 v6 v7 : Value} (h : w.heap[b]? = some (.cells #[v0, v1, v2, v3, v4, v5, v6, v7] T (0, 0))) : w.cell? ⟨b, 0, none⟩ = some v0 ∧ w.cell? ⟨b, 1, none⟩ = some v1 ∧ w.cell? ⟨b, 2, none⟩ = some v2 ∧ w.cell? ⟨b, 3, none⟩ = some v3 ∧ w.cell? ⟨b, 4, none⟩ = some v4 ∧ w.cell? ⟨b, 5, none⟩ = some v5 ∧ w.cell? ⟨b, 6, none⟩ = some v6 ∧ w.cell? ⟨b, 7, none⟩ = some v7 := ⟨(Qab h 0).trans rfl, (Qab h 1).trans rfl, (Qab h 2).trans rfl, (Qab h 3).trans rfl, (Qab h 4).trans rfl, (Qab h 5).trans rfl, (Qab h 6).trans rfl, (Qab h 7).trans rfl⟩
theorem cx16 {w : World} {b : Nat} {T : TypeId} {v0 v1 v2 v3 v4 v5 v6 v7 v8 v9 v10 v11 v12 v13 v14 v15 : Value} (h : w.heap[b]? = some (.cells #[v0, v1, v2, v3, v4, v5, v6, v7, v8, v9, v10, v11, v12, v13, v14, v15] T (0, 0))) : w.cell? ⟨b, 0, none⟩ = some v0 ∧ w.cell? ⟨b, 1, none⟩ = some v1 ∧ w.cell? ⟨b, 2, none⟩ = some v2 ∧ w.cell? ⟨b, 3, none⟩ = some v3 ∧ w.cell? ⟨b, 4, none⟩ = some v4 ∧ w.cell? ⟨b, 5, none⟩ = some v5 ∧ w.cell? ⟨b, 6, none⟩ = some v6 ∧ w.cell? ⟨b, 7, none⟩ = some v7 ∧ w.cell? ⟨b, 8, none⟩ = some v8 ∧ w.cell? ⟨b, 9, none⟩ = some v9 ∧ w.cell? ⟨b, 10, none⟩ = some v10 ∧ w.cell? ⟨b, 11, none⟩ = some v11 ∧ w.cell? ⟨b, 12, none⟩ = some v12 ∧ w.cell? ⟨b, 13, none⟩ = some v13 ∧ w.cell? ⟨b, 14, none⟩ = some v14 ∧ w.cell? ⟨b, 15, none⟩ = some v15 := ⟨(Qab h 0).trans rfl, (Qab h 1).trans rfl, (Qab h 2).trans rfl, (Qab h 3).trans rfl, (Qab h 4).trans rfl, (Qab h 5).trans rfl, (Qab h 6).trans rfl, (Qab h 7).trans rfl, (Qab h 8).trans rfl, (Qab h 9).trans rfl, (Qab h 10).trans rfl, (Qab h 11).trans rfl, (Qab h 12).trans rfl, (Qab h 13).trans rfl, (Qab h 14).trans rfl, (Qab h 15).trans rfl⟩
structure St (B b xb : Nat) (cs : Array Value) (T : TypeId) (w : World) (c : Txt) (lg : Bool) (t : Txt) (w' : World) (c' : Txt) (lg' : Bool) : Prop where
 kept : Kept B b w w'
 wr : Wr B b c' lg' w'
 wt : WT c lg t c' lg'
 box : w'.heap[xb]? = some (.cells cs T (0, 0))
 ne : xb ≠ b
 nt : T ≠ 5
section
variable {B b xb : Nat} {cs : Array Value} {T : TypeId} {w w1 w2 : World} {c c1 : Txt} {lg l1 : Bool} {t u : Txt} {en : Ending}
theorem Wr.hB (h : Wr B b c lg w) : B ≤ w.heap.size := Nat.le_trans h.le (Nat.le_of_lt h.lt)
theorem St.start (h : Wr B b c lg w) (cs : Array Value) (hT : T ≠ 5) : St B b w.heap.size cs T w c lg [] (w.alloc (.cells cs T)) c lg := by
 have b1 : Below w.heap.size w (w.alloc (.cells cs T)) := (Below.refl _ w).alloc (Nat.le_refl _) _
 exact ⟨Kept.later h.hB b1, h.later b1, WT.refl _ _ h.few, heap_alloc_new w _, fun e => by have := h.lt; omega, hT⟩
theorem St.later (s : St B b xb cs T w c lg t w1 c1 l1) (b1 : Below w1.heap.size w1 w2) : St B b xb cs T w c lg t w2 c1 l1 :=
 ⟨s.kept.trans (Kept.later s.wr.hB b1), s.wr.later b1, s.wt, (b1.block _ (Qag s.box)).trans s.box, s.ne, s.nt⟩
theorem St.step (s : St B b xb cs T w c lg t w1 c1 l1) (a : WrA B b c1 l1 u w1 en w2) : en = .returned (.tuple #[]) ∧ ∃ c2 l2, St B b xb cs T w c lg (t ++ u) w2 c2 l2 := by
 obtain ⟨rfl, k, c2, l2, h2, t2⟩ := a
 refine ⟨rfl, c2, l2, s.kept.trans k, h2, s.wt.trans t2, ?_, s.ne, s.nt⟩
 exact k.others _ _ s.box (fun e => s.ne (by simpa using e)) (fun c fz e => by cases e; exact s.nt rfl)
theorem St.fin (s : St B b xb cs T w c lg t w1 c1 l1) (e : t = u) : WrA B b c lg u w (.returned (.tuple #[])) w1 := ⟨rfl, s.kept, c1, l1, s.wr, e ▸ s.wt⟩
theorem St.add (s : St B b xb cs T w c lg t w1 c1 l1) (u : ByteArray) (hu : u.size ≤ 140737488355328) :
  Calls Tryz.prog 62 #[.pointer (some ⟨b, 0, none⟩), .string u] w1 fun e w2 => e = .returned (.tuple #[]) ∧ ∃ c2 l2, St B b xb cs T w c lg (t ++ u.data.toList) w2 c2 l2 :=
 (Qbn s.wr u hu).mono fun _ _ a => s.step a
theorem St.addT (s : St B b xb cs T w c lg t w1 c1 l1) (u : Txt) (hu : Sh u) :
  Calls Tryz.prog 62 #[.pointer (some ⟨b, 0, none⟩), str u] w1 fun e w2 => e = .returned (.tuple #[]) ∧ ∃ c2 l2, St B b xb cs T w c lg (t ++ u) w2 c2 l2 :=
 (Qbn s.wr ⟨u.toArray⟩ (by have h2 : u.length ≤ 140737488355328 := hu; simpa [ByteArray.size] using h2)).mono fun _ _ a => s.step a
theorem St.put (s : St B b xb cs T w c lg t w1 c1 l1) (ts : List Txt) (vs : Array Value) {n : Nat} (hn : ts.length = n) (hv : vs = (ts.map str).toArray) (hz : ∀ u ∈ ts, Sh u) (hl : n ≤ 64) :
  Calls Tryz.prog 63 #[.pointer (some ⟨b, 0, none⟩), .slice (some ⟨w1.heap.size, 0, none⟩) n n] (w1.alloc (.cells vs 9)) fun e w2 => e = .returned (.tuple #[]) ∧ ∃ c2 l2, St B b xb cs T w c lg (t ++ ts.flatten) w2 c2 l2 := by
 have b1 : Below w1.heap.size w1 (w1.alloc (.cells vs 9)) := (Below.refl _ w1).alloc (Nat.le_refl _) _
 have s1 := s.later b1
 have hT : TsB b w1.heap.size (w1.alloc (.cells vs 9)) ts := by
  refine ⟨vs, heap_alloc_new w1 _, fun e => ?_, fun j x hj => ?_⟩
  · have := s.wr.lt; omega
  · rw [hv]; simp [hj]
 have := Qhw (cap := n) s1.wr hT hz (by omega)
 rw [hn] at this
 exact this.mono fun _ _ a => s1.step a
end
end
section
open Go.RowKit Go.Maps
theorem Qkd {B b : Nat} {c : Txt} {lg : Bool} {w : World} (h : Wr B b c lg w) (sep : ByteArray) (hsep : sep.size ≤ 64) {sa : Option Addr} {sc : Nat} {xs : List Ex} (hL : LsAt PE 5 (fun q => q < B) w (.slice sa xs.length sc) xs) (T : Ex → Txt) (hW : ∀ x ∈ xs, PtM 101 B b PE x (T x)) (hx : xs.length ≤ 9223372036854775807) :
  Calls Tryz.prog 100 #[.pointer (some ⟨b, 0, none⟩), .string sep, .slice sa xs.length sc, .func (.func 101) #[.pointer (some ⟨b, 0, none⟩)] #[]] w fun e w' => WrA B b c lg (joinT sep.data.toList (xs.map T)) w e w' := by
 have HH := hide h
 have HL := hide hL
 have HW := hide hW
 obtain ⟨n, hn⟩ : ∃ n, xs.length = n := ⟨_, rfl⟩
 rw [hn]
 have HN := hide hn
 have hn6 : n ≤ 9223372036854775807 := by omega
 clear h hL hW hn hx
 go_enter Tryz.func100, Tryz.ntmps100
 go_wp2_with fail
 go_loopw [12] (fun v wr => ∃ (j : Nat) (c1 : Txt) (l1 : Bool), v = .int .i64 (j : Int) ∧ j ≤ n ∧ Hid (Kept B b w wr ∧ Wr B b c1 l1 wr ∧ WT c lg (joinT sep.data.toList ((xs.map T).take j)) c1 l1)) (fun v _ => n - (intOf v).toNat)
 case atStart => exact ⟨0, c, lg, rfl, Nat.zero_le _, hide ⟨Kept.refl _ _ _, Qa HH, WT.refl _ _ (Qa HH).few⟩⟩
 obtain ⟨j, c1, l1, rfl, hj, HI⟩ := hrel
 by_cases hlt : j < n
 ·
  obtain ⟨x, hxj⟩ : ∃ x, xs[j]? = some x := ⟨xs[j]'(by rw [Qa HN]; exact hlt), List.getElem?_eq_getElem _⟩
  obtain ⟨gb, cap, cs, e1, hgb, hS, _, hcs, hc⟩ := ((Qa HL).same Qae (Qa HI).1.below.size (fun q hq _ => (Qa HI).1.below.block q hq)).elem hxj
  have HCS := hide hcs
  obtain ⟨_, rfl, ⟨ka, kc, rfl⟩, _⟩ := ExS.cells hcs
  simp only [Value.slice.injEq] at e1
  obtain ⟨rfl, -, -⟩ := e1
  have x0 : wr.cell? ⟨gb, j * 5, none⟩ = some (.int .i64 x.kind) := hc 0 _ rfl
  have x1 : wr.cell? ⟨gb, j * 5 + 1, none⟩ = some (.int .i64 x.num) := hc 1 _ rfl
  have x2 : wr.cell? ⟨gb, j * 5 + 2, none⟩ = some (str x.txt) := hc 2 _ rfl
  have x3 : wr.cell? ⟨gb, j * 5 + 3, none⟩ = some (.slice ka x.kids.length kc) := hc 3 _ rfl
  have x4 : wr.cell? ⟨gb, j * 5 + 4, none⟩ = some (.int .i64 x.at_) := hc 4 _ rfl
  have hwx := Qa HW x (List.mem_of_getElem? hxj)
  have htk : (xs.map T).take (j + 1) = (xs.map T).take j ++ [T x] := by rw [List.take_add_one, List.getElem?_map, hxj]; rfl
  have htn : j ≠ 0 → (xs.map T).take j ≠ [] := fun h0 e => by
   have := congrArg List.length e
   rw [List.length_take, List.length_map, Qa HN] at this
   simp at this
   omega
  have hB : B ≤ wr.heap.size := Nat.le_trans (Qa HI).2.1.le (Nat.le_of_lt (Qa HI).2.1.lt)
  obtain ⟨xb, hxb⟩ : ∃ xb, wr.heap.size = xb := ⟨_, rfl⟩
  obtain ⟨w2, hw2⟩ : ∃ w2, w2 = wr.alloc (.cells #[.int .i64 x.kind, .int .i64 x.num, str x.txt, .slice ka x.kids.length kc, .int .i64 x.at_] 67) := ⟨_, rfl⟩
  have b2 : Below wr.heap.size wr w2 := bnw hw2
  have n2 : w2.heap[xb]? = some (.cells #[.int .i64 x.kind, .int .i64 x.num, str x.txt, .slice ka x.kids.length kc, .int .i64 x.at_] 67 (0, 0)) := by rw [hw2, ← hxb]; exact heap_alloc_new wr _
  have h2 := (Qa HI).2.1.later b2
  have k2 := (Qa HI).1.trans (Kept.later (b := b) hB b2)
  obtain ⟨p, v, hbx, _⟩ := h2.box
  obtain ⟨_, _, u2, _, uf⟩ := cl3w hbx
  have hxne : xb ≠ b := by have := (Qa HI).2.1.lt; omega
  have HW2 := hide (Ya hw2 hxb)
  have q2 : PE (fun q => q < B) w2 [.int .i64 x.kind, .int .i64 x.num, str x.txt, .slice ka x.kids.length kc, .int .i64 x.at_] x := Qae.same _ _ _ _ _ (Qa HCS) b2.size (fun q _ hl => b2.block q hl)
  have HK := hide (Ya k2 (Ya h2 (Ya n2 hxne)))
  have HQ := hide q2
  have HTK := hide (Ya htk htn)
  have HWX := hide hwx
  clear q2 HCS hgb hS hc hxj hwx htk htn hB hxb hw2 b2 n2 h2 k2 hbx hxne
  cases l1
  ·
   by_cases h0 : j = 0
   ·
    have g0 : ¬ ((0 : Int) < (j : Int)) := by omega
    obtain ⟨y0, y1, y2, y3, y4⟩ : w2.cell? ⟨xb, 0, none⟩ = some (.int .i64 x.kind) ∧ w2.cell? ⟨xb, 1, none⟩ = some (.int .i64 x.num) ∧ w2.cell? ⟨xb, 2, none⟩ = some (str x.txt) ∧ w2.cell? ⟨xb, 3, none⟩ = some (.slice ka x.kids.length kc) ∧ w2.cell? ⟨xb, 4, none⟩ = some (.int .i64 x.at_) := ⟨(Qab (Qa HK).2.2.1 0).trans rfl, (Qab (Qa HK).2.2.1 1).trans rfl, (Qab (Qa HK).2.2.1 2).trans rfl, (Qab (Qa HK).2.2.1 3).trans rfl, (Qab (Qa HK).2.2.1 4).trans rfl⟩
    have hcl := Qa HWX w2 c1 false [.int .i64 x.kind, .int .i64 x.num, str x.txt, .slice ka x.kids.length kc, .int .i64 x.at_] (Qa HQ) (Qa HK).2.1
    have H0 := hide h0
    clear h0
    go_upto_region 3 with fail
    rw [← (Qa HW2).1, (Qa HW2).2]
    go_wp2_with fail
    refine hcl.mono ?_
    clear hcl
    rintro en w3 ⟨rfl, k3, c3, l3, h3, t3⟩
    have H3 := hide (Ya k3 (Ya h3 t3))
    clear k3 h3 t3
    go_wp2_with fail
    go_roundw
    case rel =>
     obtain ⟨k3, h3, t3⟩ := Qa H3
     refine ⟨j + 1, c3, l3, by go_num, by omega, hide ⟨(Qa HK).1.trans k3, h3, ?_⟩⟩
     rw [(Qa HTK).1, Qa H0, List.take_zero]
     have q := (Qa HI).2.2
     rw [Qa H0, List.take_zero] at q
     have := q.trans t3
     simpa [joinT] using this
    case measure => simp [intOf]; omega
   have g0 : (0 : Int) < (j : Int) := by omega
   have had := Qbn (Qa HK).2.1 sep (by omega)
   have H0 := hide h0
   clear h0
   go_upto_region 3 with fail
   rw [← (Qa HW2).1, (Qa HW2).2]
   go_wp2_with fail
   refine had.mono ?_
   clear had
   rintro en w3 ⟨rfl, k3, c3, l3, h3, t3⟩
   have n3 : w3.heap[xb]? = some (.cells #[.int .i64 x.kind, .int .i64 x.num, str x.txt, .slice ka x.kids.length kc, .int .i64 x.at_] 67 (0, 0)) := k3.others xb _ (Qa HK).2.2.1 (fun e => (Qa HK).2.2.2 (by simpa using e)) (fun c fz e => by cases e)
   obtain ⟨y0, y1, y2, y3, y4⟩ : w3.cell? ⟨xb, 0, none⟩ = some (.int .i64 x.kind) ∧ w3.cell? ⟨xb, 1, none⟩ = some (.int .i64 x.num) ∧ w3.cell? ⟨xb, 2, none⟩ = some (str x.txt) ∧ w3.cell? ⟨xb, 3, none⟩ = some (.slice ka x.kids.length kc) ∧ w3.cell? ⟨xb, 4, none⟩ = some (.int .i64 x.at_) := ⟨(Qab n3 0).trans rfl, (Qab n3 1).trans rfl, (Qab n3 2).trans rfl, (Qab n3 3).trans rfl, (Qab n3 4).trans rfl⟩
   have hcl := Qa HWX w3 c3 l3 [.int .i64 x.kind, .int .i64 x.num, str x.txt, .slice ka x.kids.length kc, .int .i64 x.at_] (Qae.same _ _ _ _ _ (Qa HQ) k3.below.size (fun q hq _ => k3.below.block q hq)) h3
   have H3 := hide (Ya k3 t3)
   clear k3 h3 t3 n3
   go_wp2_with fail
   refine hcl.mono ?_
   clear hcl
   rintro en w4 ⟨rfl, k4, c4, l4, h4, t4⟩
   have H4 := hide (Ya k4 (Ya h4 t4))
   clear k4 h4 t4
   go_wp2_with fail
   go_roundw
   case rel =>
    obtain ⟨k3, t3⟩ := Qa H3
    obtain ⟨k4, h4, t4⟩ := Qa H4
    refine ⟨j + 1, c4, l4, by go_num, by omega, hide ⟨((Qa HK).1.trans k3).trans k4, h4, ?_⟩⟩
    rw [(Qa HTK).1, Qec, if_neg ((Qa HTK).2 (Qa H0))]
    exact ((Qa HI).2.2.trans t3).trans t4
   case measure => simp [intOf]; omega
  go_upto_region 3 with fail
  rw [← (Qa HW2).1, (Qa HW2).2]
  go_wp2_with fail
  go_end0
  obtain ⟨k2, h2, _⟩ := Qa HK
  refine ⟨rfl, k2, c1, true, h2, (Qa HI).2.2.cut ?_⟩
  have := Qge sep.data.toList ((xs.map T).take j) ((xs.map T).drop j)
  rwa [List.take_append_drop] at this
 have ej : j = n := by omega
 have HE := hide (show (xs.map T).take j = xs.map T by rw [ej, ← Qa HN, ← List.length_map (f := T)]; exact List.take_length)
 clear ej
 go_wp2_with fail
 go_end0
 refine ⟨rfl, (Qa HI).1, c1, l1, (Qa HI).2.1, ?_⟩
 have := (Qa HI).2.2
 rw [Qa HE] at this
 exact this
end
end Go.Proofs.YtccehgfecaamoaaGreatDoor
