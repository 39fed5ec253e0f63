/- show's writer: add. show's writer: put. show's writer: field. Lists in memory that are held against each other. show's writer: a list of fields. show's writer: a list at vestry/api.Ctor. show's writer: lines at vestry/api.Init. show's writer: instance. show's writer: ctor. -/
import Derived.Test.YtccehgfecaamoaaGreatDoorQa22
import Derived.Test.YtccehgfecaamoaaGreatDoorQa07
import Derived.Test.YtccehgfecaamoaaGreatDoorQa12
import Derived.Deep.Cut
import Derived.Test.YtccehgfecaamoaaGreatDoorQa15
set_option maxRecDepth 100000
set_option maxHeartbeats 32000000
namespace Go.Proofs.YtccehgfecaamoaaGreatDoor
section
open Go.RowKit Go.Maps
def WrA (B b : Nat) (c : Txt) (lg : Bool) (t : Txt) (w : World) (en : Ending) (w' : World) : Prop := en = .returned (.tuple #[]) ∧ Kept B b w w' ∧ ∃ c' lg', Wr B b c' lg' w' ∧ WT c lg t c' lg'
theorem Wr.setL {B b : Nat} {c : Txt} {lg : Bool} {w : World} (h : Wr B b c lg w) (l2 : Bool) : Wr B b c l2 (w.setCell ⟨b, 2, none⟩ (.bool l2)) := by
 obtain ⟨p, v, hb, hp, ho, hn⟩ := h.box
 exact ⟨h.le, h.few, h.tbl.below ((Kept.refl B b w).set h.le 2 _).below, p, v, (Qac hb 2 _).trans rfl, hp, ho.kept (row := some b) ⟨rfl, rfl, rfl, by simp [World.setCell], fun k _ hk => hpS (fun e => hk (by simp [e]))⟩ (Or.inr hn), hn⟩
theorem Qtm {B b : Nat} {c : Txt} {lg : Bool} {w : World} (h : Wr B b c lg w) :
  Calls Tryz.prog 98 #[.pointer (some ⟨b, 0, none⟩)] w fun e w' => e = .returned (.int .i64 (c.length : Int)) ∧ w' = w := by
 obtain ⟨p, v, hb, hp, ho, hn⟩ := h.box
 obtain ⟨c0, c1, c2, _, cf⟩ := cl3w hb
 obtain ⟨a, cap, rfl⟩ : ∃ a cap, v = .slice a c.length cap := by
  rcases ho.2 with ⟨hv, e⟩ | ⟨g, cap, cur, fz, hv, _⟩
  · exact ⟨none, 0, by rw [hv, e]⟩
  · exact ⟨_, _, hv⟩
 clear h hb hp ho hn c0 c2
 go_enter Tryz.func98, Tryz.ntmps98
 go_wp2_with fail
 go_ret
 exact ⟨rfl, rfl⟩
theorem Qav {B b : Nat} {c : Txt} {lg : Bool} {w : World} (h : Wr B b c lg w) (s : ByteArray) (hs : s.size ≤ 140737488355328) :
  Calls Tryz.prog 62 #[.pointer (some ⟨b, 0, none⟩), .string s] w fun e w' => WrA B b c lg s.data.toList w e w' := by
 have hsl : s.data.toList.length = s.size := Array.length_toList
 obtain ⟨p, v, hb, _⟩ := h.box
 obtain ⟨c0, c1, c2, _, cf⟩ := cl3w hb
 have hk : Kept B b w (w.setCell ⟨b, 2, none⟩ (.bool true)) := (Kept.refl B b w).set h.le 2 _
 have hk0 : Kept B b w (w.setCell ⟨b, 2, none⟩ (.bool false)) := (Kept.refl B b w).set h.le 2 _
 have hfw := h.few
 cases lg
 ·
  have hlen := Qtm h
  by_cases hr : 65536 < c.length + s.size
  ·
   have g1 : decide ((65536 : Int) < (c.length : Int) + (s.size : Int)) = true := decide_eq_true (by omega)
   have HE := hide (Ya hk (h.setL true))
   clear hb h hk hk0 c0 c1
   go_enter Tryz.func62, Tryz.ntmps62
   go_wp2_with fail
   refine hlen.mono ?_
   clear hlen
   rintro e w1 ⟨rfl, rfl⟩
   go_wp2_with fail
   go_end0
   exact ⟨rfl, (Qa HE).1, c, true, (Qa HE).2, (fun e => by cases e), (fun _ h2 => by omega), fun _ _ => rfl⟩
  have g1 : decide ((65536 : Int) < (c.length : Int) + (s.size : Int)) = false := decide_eq_false (by omega)
  have hws := wws_any (h.setL false) s (by omega)
  have HE := hide hk0
  clear hb h hk hk0 c0 c1
  go_enter Tryz.func62, Tryz.ntmps62
  go_wp2_with fail
  refine hlen.mono ?_
  clear hlen
  rintro e w1 ⟨rfl, rfl⟩
  go_wp2_with fail
  refine hws.mono ?_
  clear hws
  rintro e w2 ⟨⟨v2, rfl⟩, h2, k2⟩
  have H2 := hide (Ya h2 k2)
  clear h2 k2
  go_wp2_with fail
  go_end0
  obtain ⟨h2, k2⟩ := Qa H2
  exact ⟨rfl, (Qa HE).trans k2, _, false, h2, (fun e => by cases e), fun _ _ => ⟨rfl, rfl⟩, (fun _ h3 => by omega)⟩
 have HE := hide (Ya hk (h.setL true))
 clear hb h hk hk0 c0 c1
 go_enter Tryz.func62, Tryz.ntmps62
 go_wp2_with fail
 go_end0
 exact ⟨rfl, (Qa HE).1, c, true, (Qa HE).2, fun e => e, (fun e => by cases e), (fun e => by cases e)⟩
end
section
open Go.RowKit Go.Maps
def TsB (b g : Nat) (w : World) (ts : List Txt) : Prop := ∃ cs, w.heap[g]? = some (.cells cs 9 (0, 0)) ∧ g ≠ b ∧ ∀ (j : Nat) (t : Txt), ts[j]? = some t → cs[j]? = some (str t)
theorem TsB.kept {B b g : Nat} {w w' : World} {ts : List Txt} (h : TsB b g w ts) (k : Kept B b w w') : TsB b g w' ts := by
 obtain ⟨cs, hg, hn, hc⟩ := h
 exact ⟨cs, k.others g _ hg (fun e => hn (by simpa using e)) (fun c fz e => by cases e), hn, hc⟩
theorem Qfh {B b : Nat} {c : Txt} {lg : Bool} {w : World} (h : Wr B b c lg w) {g cap : Nat} {ts : List Txt} (hT : TsB b g w ts) (hz : ∀ t ∈ ts, t.length ≤ 140737488355328) (hl : ts.length ≤ 64) :
  Calls Tryz.prog 63 #[.pointer (some ⟨b, 0, none⟩), .slice (some ⟨g, 0, none⟩) ts.length cap] w fun e w' => WrA B b c lg ts.flatten w e w' := by
 have HT := hide hT
 have HZ := hide hz
 have HL := hide hl
 have HH := hide h
 obtain ⟨n, hn⟩ : ∃ n, ts.length = n := ⟨_, rfl⟩
 rw [hn]
 have HN := hide hn
 have hn64 : n ≤ 64 := by omega
 clear h hT hz hl hn
 go_enter Tryz.func63, Tryz.ntmps63
 go_wp2_with fail
 go_loopw [5, 8] (fun _ v8 wr => ∃ (j : Nat) (c1 : Txt) (l1 : Bool), v8 = .int .i64 (j : Int) ∧ j ≤ n ∧ Hid (Kept B b w wr ∧ Wr B b c1 l1 wr ∧ WT c lg (ts.take j).flatten c1 l1)) (fun _ v8 _ => n - (intOf v8).toNat)
 case atStart => exact ⟨0, c, lg, rfl, Nat.zero_le _, hide ⟨Kept.refl _ _ _, Qa HH, WT.refl _ _ (Qa HH).few⟩⟩
 obtain ⟨j, c1, l1, rfl, hj, HI⟩ := hrel
 by_cases hlt : j < n
 ·
  obtain ⟨t, ht⟩ : ∃ t, ts[j]? = some t := ⟨ts[j]'(by rw [Qa HN]; exact hlt), List.getElem?_eq_getElem _⟩
  obtain ⟨cs, hg, _, hc⟩ := (Qa HT).kept (Qa HI).1
  have c1' : wr.cell? ⟨g, j, none⟩ = some (str t) := (Qaa hg j).trans (hc j t ht)
  have had := Qav (Qa HI).2.1 ⟨t.toArray⟩ (by have := Qa HZ t (List.mem_of_getElem? ht); simpa [ByteArray.size] using this)
  rw [show (Value.string ⟨t.toArray⟩) = str t from rfl] at had
  have HTK := hide (show (ts.take (j + 1)).flatten = (ts.take j).flatten ++ t by rw [List.take_add_one, ht]; simp)
  clear hg hc ht
  go_wp2_with fail
  refine had.mono ?_
  clear had
  rintro en w2 ⟨rfl, k2, c2, l2, h2, t2⟩
  have H2 := hide (Ya k2 (Ya h2 t2))
  clear k2 h2 t2 c1'
  go_wp2_with fail
  go_roundw
  case rel =>
   obtain ⟨k2, h2, t2⟩ := Qa H2
   refine ⟨j + 1, c2, l2, by go_num, by omega, hide ⟨(Qa HI).1.trans k2, h2, ?_⟩⟩
   rw [Qa HTK]
   exact (Qa HI).2.2.trans t2
  case measure => simp [intOf]; omega
 have ej : j = n := by omega
 have HE := hide (show ts.take j = ts by rw [ej, ← Qa HN]; exact List.take_length)
 clear ej
 go_wp2_with fail
 go_end0
 refine ⟨rfl, (Qa HI).1, c1, l1, (Qa HI).2.1, ?_⟩
 have := (Qa HI).2.2
 rw [Qa HE] at this
 exact this
end
section
open Go.RowKit Go.Maps
theorem Wr.lt {B b : Nat} {c : Txt} {lg : Bool} {w : World} (h : Wr B b c lg w) : b < w.heap.size := by
 obtain ⟨_, _, hb, _⟩ := h.box
 exact Qaf hb
theorem Wr.later {B b : Nat} {c : Txt} {lg : Bool} {w w' : World} (h : Wr B b c lg w) (k : Below w.heap.size w w') : Wr B b c lg w' := by
 obtain ⟨p, v, hb, hp, ho, hn⟩ := h.box
 exact ⟨h.le, h.few, h.tbl.below (k.mono (Nat.le_trans h.le (Nat.le_of_lt (Qaf hb)))), p, v, (k.block _ (Qaf hb)).trans hb, hp, ho.kept (row := none) ⟨k.os, k.tape, k.output, k.size, fun q hq _ => k.block q hq⟩ (by cases hv : v.ownBlock with | none => exact .inl rfl | some g => exact .inr (by simp)), hn⟩
theorem Kept.later {B b : Nat} {w w' : World} (hB : B ≤ w.heap.size) (k : Below w.heap.size w w') : Kept B b w w' := ⟨k.mono hB, fun q _ hq _ _ => (k.block q (Qaf hq)).trans hq⟩
theorem WrA.from {B b : Nat} {c t : Txt} {lg : Bool} {w w1 w2 : World} {en : Ending} (h : WrA B b c lg t w1 en w2) (k : Kept B b w w1) : WrA B b c lg t w en w2 := ⟨h.1, k.trans h.2.1, h.2.2⟩
def fdT (x : Fld) : Txt := x.name ++ [58, 32] ++ x.type
theorem Qgt {B b : Nat} {c : Txt} {lg : Bool} {w : World} (h : Wr B b c lg w) (x : Fld) (h1 : x.name.length ≤ 140737488355328) (h2 : x.type.length ≤ 140737488355328) :
  Calls Tryz.prog 67 #[.pointer (some ⟨b, 0, none⟩), .agg #[str x.name, str x.type]] w fun e w' => WrA B b c lg (fdT x) w e w' := by
 have hlt := h.lt
 have hB : B ≤ w.heap.size := Nat.le_trans h.le (Nat.le_of_lt hlt)
 obtain ⟨w1, hw1⟩ : ∃ w1, w1 = w.alloc (.cells #[str x.name, str x.type] 138) := ⟨_, rfl⟩
 have b1 : Below w.heap.size w w1 := by rw [hw1]; exact (Below.refl _ w).alloc (Nat.le_refl _) _
 have n1 : w1.heap[w.heap.size]? = some (.cells #[str x.name, str x.type] 138 (0, 0)) := by rw [hw1]; exact heap_alloc_new w _
 have s1 : w1.heap.size = w.heap.size + 1 := by rw [hw1]; simp
 obtain ⟨w2, hw2⟩ : ∃ w2, w2 = w1.alloc (.cells #[str x.name, .string ⟨#[58, 32]⟩, str x.type] 9) := ⟨_, rfl⟩
 have b2 : Below w1.heap.size w1 w2 := by rw [hw2]; exact (Below.refl _ w1).alloc (Nat.le_refl _) _
 have n2 : w2.heap[w.heap.size + 1]? = some (.cells #[str x.name, .string ⟨#[58, 32]⟩, str x.type] 9 (0, 0)) := by rw [hw2, ← s1]; exact heap_alloc_new w1 _
 have bw : Below w.heap.size w w2 := b1.trans (b2.mono (by omega))
 have hT : TsB b (w.heap.size + 1) w2 [x.name, [58, 32], x.type] := ⟨_, n2, by omega, fun j t hj => by
  match j, hj with
  | 0, hj => cases hj; rfl
  | 1, hj => cases hj; rfl
  | 2, hj => cases hj; rfl
  | j + 3, hj => simp at hj⟩
 have hp := Qfh (cap := 3) (h.later bw) hT (fun t ht => by
  simp only [List.mem_cons, List.not_mem_nil, or_false] at ht
  rcases ht with rfl | rfl | rfl
  · exact h1
  · decide
  · exact h2) (by simp)
 have HE := hide (Kept.later (b := b) hB bw)
 obtain ⟨x0, x1, xf⟩ : w1.cell? ⟨w.heap.size, 0, none⟩ = some (str x.name) ∧ w1.cell? ⟨w.heap.size, 1, none⟩ = some (str x.type) ∧ ∀ o, w1.frozen? ⟨w.heap.size, o, none⟩ = false := ⟨(Qaa n1 0).trans rfl, (Qaa n1 1).trans rfl, fun o => by simp [World.frozen?, n1]⟩
 have HW1 := hide hw1
 have HW2 := hide (Ya hw2 s1)
 clear h h1 h2 hlt hB hw1 b1 n1 s1 hw2 b2 n2 bw hT
 go_enter Tryz.func67, Tryz.ntmps67
 go_wp2_with fail
 rw [← Qa HW1]
 go_wp2_with fail
 rw [← (Qa HW2).1]
 refine hp.mono ?_
 clear hp
 intro en w3 h3
 have H3 := hide h3
 obtain ⟨rfl, _⟩ := h3
 go_wp2_with fail
 go_end0
 have h3 := (Qa H3).from (Qa HE)
 have e : fdT x = [x.name, [58, 32], x.type].flatten := by simp [fdT]
 rw [e]
 exact h3
end
section
open Go.RowKit Go.Maps
def eqL {α : Type} (eq : α → α → Bool) (xs ys : List α) : Bool := decide (xs.length = ys.length) && (xs.zip ys).all (fun q => eq q.1 q.2)
theorem Qbz {α : Type} {eq : α → α → Bool} {xs ys : List α} (hl : xs.length = ys.length) (h : ∀ (j : Nat) (x y : α), xs[j]? = some x → ys[j]? = some y → eq x y = true) : eqL eq xs ys = true := by
 unfold eqL
 rw [decide_eq_true hl, Bool.true_and, List.all_eq_true]
 rintro ⟨x, y⟩ hm
 obtain ⟨j, hj, e⟩ := List.getElem_of_mem hm
 have hz : (xs.zip ys)[j]? = some (x, y) := by rw [List.getElem?_eq_getElem hj, e]
 rw [List.getElem?_zip_eq_some] at hz
 exact h j x y hz.1 hz.2
theorem Qbd {α : Type} {eq : α → α → Bool} {xs ys : List α} {j : Nat} {x y : α} (hx : xs[j]? = some x) (hy : ys[j]? = some y) (h : eq x y = false) : eqL eq xs ys = false := by
 unfold eqL
 have hm : (x, y) ∈ xs.zip ys := List.mem_of_getElem? (i := j) (List.getElem?_zip_eq_some.2 ⟨hx, hy⟩)
 have : (xs.zip ys).all (fun q => eq q.1 q.2) = false := by
  rw [List.all_eq_false]
  exact ⟨_, hm, by simp [h]⟩
 rw [this, Bool.and_false]
theorem Qcq {α : Type} {eq : α → α → Bool} {xs ys : List α} (hl : ¬ xs.length = ys.length) : eqL eq xs ys = false := by
 unfold eqL
 rw [decide_eq_false hl, Bool.false_and]
theorem Qpd {k : Nat} : ∀ (css : List (List Value)) (j : Nat) (cs : List Value), (∀ c ∈ css, c.length = k) → css[j]? = some cs → ∀ q, q < k → css.flatten[j * k + q]? = cs[q]?
 | [], j, cs, _, h => by simp at h
 | c :: css, 0, cs, hl, h => fun q hq => by
  simp at h
  subst h
  rw [List.flatten_cons, Nat.zero_mul, Nat.zero_add, List.getElem?_append_left (by rw [hl c (by simp)]; exact hq)]
 | c :: css, j + 1, cs, hl, h => fun q hq => by
  have hc : c.length = k := hl c (by simp)
  rw [List.flatten_cons, List.getElem?_append_right (by rw [hc, Nat.succ_mul]; omega), hc, show (j + 1) * k + q - k = j * k + q by rw [Nat.succ_mul]; omega]
  exact Qpd css j cs (fun x hx => hl x (by simp [hx])) (by simpa using h) q hq
theorem LsAt.elem {α : Type} {p : PS α} {k : Nat} {S : Nat → Prop} {w : World} {v : Value} {xs : List α} (h : LsAt p k S w v xs) {j : Nat} {x : α} (hx : xs[j]? = some x) : ∃ b cap cs, v = .slice (some ⟨b, 0, none⟩) xs.length cap ∧ b < w.heap.size ∧ S b ∧ cs.length = k ∧ p S w cs x ∧ ∀ q c, cs[q]? = some c → w.cell? ⟨b, j * k + q, none⟩ = some c := by
 obtain ⟨a, cap, css, rfl, h1, h2, h3, h4⟩ := h
 have hj : j < xs.length := (List.getElem?_eq_some_iff.1 hx).1
 obtain ⟨b, rfl, hS, hb, hc⟩ := h4 (fun e => by rw [e] at hj; simp at hj)
 have hj2 : j < css.length := by rw [h3.1]; exact hj
 have hl : ∀ c ∈ css, c.length = k := fun c hc => by
  obtain ⟨i, hi, e⟩ := List.getElem_of_mem hc
  have hi2 : i < xs.length := by rw [← h3.1]; exact hi
  exact (h3.2 i _ c (List.getElem?_eq_getElem hi2) (by rw [List.getElem?_eq_getElem hi, e])).1
 obtain ⟨g1, g2⟩ := h3.2 j x css[j] hx (List.getElem?_eq_getElem hj2)
 refine ⟨b, cap, css[j], rfl, hb, hS, g1, g2, fun q c hq => hc _ _ ?_⟩
 rw [Qpd css j css[j] hl (List.getElem?_eq_getElem hj2) q (by rw [← g1]; exact (List.getElem?_eq_some_iff.1 hq).1)]
 exact hq
theorem LsAt.later {α : Type} {p : PS α} (hp : PSok p) {k : Nat} {S : Nat → Prop} {w w' : World} {v : Value} {xs : List α} (h : LsAt p k S w v xs) (b : Below w.heap.size w w') : LsAt p k S w' v xs := h.same hp b.size (fun k _ hk => b.block k hk)
end
section
open Go.RowKit Go.Maps
def joinT (sep : Txt) : List Txt → Txt
 | [] => []
 | t :: ts => t ++ ts.flatMap (sep ++ ·)
theorem Qct (sep : Txt) (t : Txt) : ∀ ts : List Txt, joinT sep (ts ++ [t]) = if ts = [] then t else joinT sep ts ++ sep ++ t
 | [] => by simp [joinT]
 | x :: ts => by simp [joinT]
theorem Qdv (sep : Txt) (ts us : List Txt) : (joinT sep ts).length ≤ (joinT sep (ts ++ us)).length := by
 cases ts with
 | nil => simp [joinT]
 | cons t ts => simp only [joinT, List.cons_append, List.flatMap_append, List.length_append]; omega
theorem WT.cut {c c1 t u : Txt} {lg : Bool} (h : WT c lg t c1 true) (hl : t.length ≤ u.length) : WT c lg u c1 true :=
 ⟨fun _ => rfl, (fun e hu => by have := (h.2.1 e (by omega)).2; cases this), fun _ _ => rfl⟩
theorem LsAt.len {α : Type} {p : PS α} {k : Nat} {S : Nat → Prop} {w : World} {v : Value} {xs : List α} (h : LsAt p k S w v xs) : xs.length ≤ 9223372036854775807 := by
 obtain ⟨_, cap, _, _, h1, h2, _⟩ := h
 exact Nat.le_trans h1 h2
def PtW (F B b : Nat) (v : Value) (t : Txt) : Prop := ∀ (w : World) (c : Txt) (lg : Bool), Wr B b c lg w → Calls Tryz.prog F #[.pointer (some ⟨b, 0, none⟩), v] w fun e w' => WrA B b c lg t w e w'
theorem Qgw {B b : Nat} {c : Txt} {lg : Bool} {w : World} (h : Wr B b c lg w) (sep : ByteArray) (hsep : sep.size ≤ 64) {sa : Option Addr} {sc : Nat} {xs : List Fld} (hL : LsAt PF 2 (fun q => q < B) w (.slice sa xs.length sc) xs) (T : Fld → Txt) (hW : ∀ x ∈ xs, PtW 67 B b (.agg #[str x.name, str x.type]) (T x)) (hx : xs.length ≤ 9223372036854775807) :
  Calls Tryz.prog 66 #[.pointer (some ⟨b, 0, none⟩), .string sep, .slice sa xs.length sc, .func (.func 67) #[.pointer (some ⟨b, 0, none⟩)] #[]] w fun e w' => WrA B b c lg (joinT sep.data.toList (xs.map T)) w e w' := by
 have HH := hide h
 have HL := hide hL
 have HW := hide hW
 obtain ⟨n, hn⟩ : ∃ n, xs.length = n := ⟨_, rfl⟩
 rw [hn]
 have HN := hide hn
 have hn6 : n ≤ 9223372036854775807 := by omega
 clear h hL hW hn hx
 go_enter Tryz.func66, Tryz.ntmps66
 go_wp2_with fail
 go_loopw [12] (fun v wr => ∃ (j : Nat) (c1 : Txt) (l1 : Bool), v = .int .i64 (j : Int) ∧ j ≤ n ∧ Hid (Kept B b w wr ∧ Wr B b c1 l1 wr ∧ WT c lg (joinT sep.data.toList ((xs.map T).take j)) c1 l1)) (fun v _ => n - (intOf v).toNat)
 case atStart => exact ⟨0, c, lg, rfl, Nat.zero_le _, hide ⟨Kept.refl _ _ _, Qa HH, WT.refl _ _ (Qa HH).few⟩⟩
 obtain ⟨j, c1, l1, rfl, hj, HI⟩ := hrel
 by_cases hlt : j < n
 ·
  obtain ⟨x, hxj⟩ : ∃ x, xs[j]? = some x := ⟨xs[j]'(by rw [Qa HN]; exact hlt), List.getElem?_eq_getElem _⟩
  obtain ⟨gb, cap, cs, e1, hgb, hS, _, hcs, hc⟩ := ((Qa HL).same Qbv (Qa HI).1.below.size (fun q hq _ => (Qa HI).1.below.block q hq)).elem hxj
  obtain rfl : cs = [str x.name, str x.type] := hcs
  simp only [Value.slice.injEq] at e1
  obtain ⟨rfl, -, -⟩ := e1
  have x0 : wr.cell? ⟨gb, j * 2, none⟩ = some (str x.name) := hc 0 _ rfl
  have x1 : wr.cell? ⟨gb, j * 2 + 1, none⟩ = some (str x.type) := hc 1 _ rfl
  have hwx := Qa HW x (List.mem_of_getElem? hxj)
  have htk : (xs.map T).take (j + 1) = (xs.map T).take j ++ [T x] := by rw [List.take_add_one, List.getElem?_map, hxj]; rfl
  have htn : j ≠ 0 → (xs.map T).take j ≠ [] := fun h0 e => by
   have := congrArg List.length e
   rw [List.length_take, List.length_map, Qa HN] at this
   simp at this
   omega
  have hB : B ≤ wr.heap.size := Nat.le_trans (Qa HI).2.1.le (Nat.le_of_lt (Qa HI).2.1.lt)
  obtain ⟨xb, hxb⟩ : ∃ xb, wr.heap.size = xb := ⟨_, rfl⟩
  obtain ⟨w2, hw2⟩ : ∃ w2, w2 = wr.alloc (.cells #[str x.name, str x.type] 138) := ⟨_, rfl⟩
  have b2 : Below wr.heap.size wr w2 := by rw [hw2]; exact (Below.refl _ wr).alloc (Nat.le_refl _) _
  have n2 : w2.heap[xb]? = some (.cells #[str x.name, str x.type] 138 (0, 0)) := by rw [hw2, ← hxb]; exact heap_alloc_new wr _
  have h2 := (Qa HI).2.1.later b2
  have k2 := (Qa HI).1.trans (Kept.later (b := b) hB b2)
  obtain ⟨p, v, hbx, _⟩ := h2.box
  obtain ⟨_, _, u2, _, uf⟩ := cl3w hbx
  have hxne : xb ≠ b := by have := (Qa HI).2.1.lt; omega
  have HW2 := hide (Ya hw2 hxb)
  have HK := hide (Ya k2 (Ya h2 (Ya n2 hxne)))
  have HTK := hide (Ya htk htn)
  have HWX := hide hwx
  clear hgb hS hc hxj hwx htk htn hB hxb hw2 b2 n2 h2 k2 hbx hxne
  cases l1
  ·
   by_cases h0 : j = 0
   ·
    have g0 : ¬ ((0 : Int) < (j : Int)) := by omega
    obtain ⟨y0, y1⟩ : w2.cell? ⟨xb, 0, none⟩ = some (str x.name) ∧ w2.cell? ⟨xb, 1, none⟩ = some (str x.type) := ⟨(Qaa (Qa HK).2.2.1 0).trans rfl, (Qaa (Qa HK).2.2.1 1).trans rfl⟩
    have hcl := Qa HWX w2 c1 false (Qa HK).2.1
    have H0 := hide h0
    clear h0
    go_upto_region 3 with fail
    rw [← (Qa HW2).1, (Qa HW2).2]
    go_wp2_with fail
    refine hcl.mono ?_
    clear hcl
    rintro en w3 ⟨rfl, k3, c3, l3, h3, t3⟩
    have H3 := hide (Ya k3 (Ya h3 t3))
    clear k3 h3 t3
    go_wp2_with fail
    go_roundw
    case rel =>
     obtain ⟨k3, h3, t3⟩ := Qa H3
     refine ⟨j + 1, c3, l3, by go_num, by omega, hide ⟨(Qa HK).1.trans k3, h3, ?_⟩⟩
     rw [(Qa HTK).1, Qa H0, List.take_zero]
     have q := (Qa HI).2.2
     rw [Qa H0, List.take_zero] at q
     have := q.trans t3
     simpa [joinT] using this
    case measure => simp [intOf]; omega
   have g0 : (0 : Int) < (j : Int) := by omega
   have had := Qav (Qa HK).2.1 sep (by omega)
   have H0 := hide h0
   clear h0
   go_upto_region 3 with fail
   rw [← (Qa HW2).1, (Qa HW2).2]
   go_wp2_with fail
   refine had.mono ?_
   clear had
   rintro en w3 ⟨rfl, k3, c3, l3, h3, t3⟩
   have n3 : w3.heap[xb]? = some (.cells #[str x.name, str x.type] 138 (0, 0)) := k3.others xb _ (Qa HK).2.2.1 (fun e => (Qa HK).2.2.2 (by simpa using e)) (fun c fz e => by cases e)
   obtain ⟨y0, y1⟩ : w3.cell? ⟨xb, 0, none⟩ = some (str x.name) ∧ w3.cell? ⟨xb, 1, none⟩ = some (str x.type) := ⟨(Qaa n3 0).trans rfl, (Qaa n3 1).trans rfl⟩
   have hcl := Qa HWX w3 c3 l3 h3
   have H3 := hide (Ya k3 t3)
   clear k3 h3 t3 n3
   go_wp2_with fail
   refine hcl.mono ?_
   clear hcl
   rintro en w4 ⟨rfl, k4, c4, l4, h4, t4⟩
   have H4 := hide (Ya k4 (Ya h4 t4))
   clear k4 h4 t4
   go_wp2_with fail
   go_roundw
   case rel =>
    obtain ⟨k3, t3⟩ := Qa H3
    obtain ⟨k4, h4, t4⟩ := Qa H4
    refine ⟨j + 1, c4, l4, by go_num, by omega, hide ⟨((Qa HK).1.trans k3).trans k4, h4, ?_⟩⟩
    rw [(Qa HTK).1, Qct, if_neg ((Qa HTK).2 (Qa H0))]
    exact ((Qa HI).2.2.trans t3).trans t4
   case measure => simp [intOf]; omega
  go_upto_region 3 with fail
  rw [← (Qa HW2).1, (Qa HW2).2]
  go_wp2_with fail
  go_end0
  obtain ⟨k2, h2, _⟩ := Qa HK
  refine ⟨rfl, k2, c1, true, h2, (Qa HI).2.2.cut ?_⟩
  have := Qdv sep.data.toList ((xs.map T).take j) ((xs.map T).drop j)
  rwa [List.take_append_drop] at this
 have ej : j = n := by omega
 have HE := hide (show (xs.map T).take j = xs.map T by rw [ej, ← Qa HN, ← List.length_map (f := T)]; exact List.take_length)
 clear ej
 go_wp2_with fail
 go_end0
 refine ⟨rfl, (Qa HI).1, c1, l1, (Qa HI).2.1, ?_⟩
 have := (Qa HI).2.2
 rw [Qa HE] at this
 exact this
end
section
open Go.RowKit Go.Maps
def PtM {α : Type} (F B b : Nat) (p : PS α) (x : α) (t : Txt) : Prop := ∀ (w : World) (c : Txt) (lg : Bool) (cs : List Value), p (fun q => q < B) w cs x → Wr B b c lg w → Calls Tryz.prog F #[.pointer (some ⟨b, 0, none⟩), .agg cs.toArray] w fun e w' => WrA B b c lg t w e w'
theorem Qnj {B b : Nat} {c : Txt} {lg : Bool} {w : World} (h : Wr B b c lg w) (sep : ByteArray) (hsep : sep.size ≤ 64) {sa : Option Addr} {sc : Nat} {xs : List Ctr} (hL : LsAt PC 2 (fun q => q < B) w (.slice sa xs.length sc) xs) (T : Ctr → Txt) (hW : ∀ x ∈ xs, PtM 65 B b PC x (T x)) (hx : xs.length ≤ 9223372036854775807) :
  Calls Tryz.prog 64 #[.pointer (some ⟨b, 0, none⟩), .string sep, .slice sa xs.length sc, .func (.func 65) #[.pointer (some ⟨b, 0, none⟩)] #[]] w fun e w' => WrA B b c lg (joinT sep.data.toList (xs.map T)) w e w' := by
 have HH := hide h
 have HL := hide hL
 have HW := hide hW
 obtain ⟨n, hn⟩ : ∃ n, xs.length = n := ⟨_, rfl⟩
 rw [hn]
 have HN := hide hn
 have hn6 : n ≤ 9223372036854775807 := by omega
 clear h hL hW hn hx
 go_enter Tryz.func64, Tryz.ntmps64
 go_wp2_with fail
 go_loopw [12] (fun v wr => ∃ (j : Nat) (c1 : Txt) (l1 : Bool), v = .int .i64 (j : Int) ∧ j ≤ n ∧ Hid (Kept B b w wr ∧ Wr B b c1 l1 wr ∧ WT c lg (joinT sep.data.toList ((xs.map T).take j)) c1 l1)) (fun v _ => n - (intOf v).toNat)
 case atStart => exact ⟨0, c, lg, rfl, Nat.zero_le _, hide ⟨Kept.refl _ _ _, Qa HH, WT.refl _ _ (Qa HH).few⟩⟩
 obtain ⟨j, c1, l1, rfl, hj, HI⟩ := hrel
 by_cases hlt : j < n
 ·
  obtain ⟨x, hxj⟩ : ∃ x, xs[j]? = some x := ⟨xs[j]'(by rw [Qa HN]; exact hlt), List.getElem?_eq_getElem _⟩
  obtain ⟨gb, cap, cs, e1, hgb, hS, _, hcs, hc⟩ := ((Qa HL).same Qdq (Qa HI).1.below.size (fun q hq _ => (Qa HI).1.below.block q hq)).elem hxj
  have HCS := hide hcs
  obtain ⟨xa, xn, xc, rfl, _⟩ := hcs
  simp only [Value.slice.injEq] at e1
  obtain ⟨rfl, -, -⟩ := e1
  have x0 : wr.cell? ⟨gb, j * 2, none⟩ = some (str x.name) := hc 0 _ rfl
  have x1 : wr.cell? ⟨gb, j * 2 + 1, none⟩ = some (.slice xa xn xc) := hc 1 _ rfl
  have hwx := Qa HW x (List.mem_of_getElem? hxj)
  have htk : (xs.map T).take (j + 1) = (xs.map T).take j ++ [T x] := by rw [List.take_add_one, List.getElem?_map, hxj]; rfl
  have htn : j ≠ 0 → (xs.map T).take j ≠ [] := fun h0 e => by
   have := congrArg List.length e
   rw [List.length_take, List.length_map, Qa HN] at this
   simp at this
   omega
  have hB : B ≤ wr.heap.size := Nat.le_trans (Qa HI).2.1.le (Nat.le_of_lt (Qa HI).2.1.lt)
  obtain ⟨xb, hxb⟩ : ∃ xb, wr.heap.size = xb := ⟨_, rfl⟩
  obtain ⟨w2, hw2⟩ : ∃ w2, w2 = wr.alloc (.cells #[str x.name, .slice xa xn xc] 119) := ⟨_, rfl⟩
  have b2 : Below wr.heap.size wr w2 := by rw [hw2]; exact (Below.refl _ wr).alloc (Nat.le_refl _) _
  have n2 : w2.heap[xb]? = some (.cells #[str x.name, .slice xa xn xc] 119 (0, 0)) := by rw [hw2, ← hxb]; exact heap_alloc_new wr _
  have h2 := (Qa HI).2.1.later b2
  have k2 := (Qa HI).1.trans (Kept.later (b := b) hB b2)
  obtain ⟨p, v, hbx, _⟩ := h2.box
  obtain ⟨_, _, u2, _, uf⟩ := cl3w hbx
  have hxne : xb ≠ b := by have := (Qa HI).2.1.lt; omega
  have HW2 := hide (Ya hw2 hxb)
  have q2 : PC (fun q => q < B) w2 [str x.name, .slice xa xn xc] x := Qdq.same _ _ _ _ _ (Qa HCS) b2.size (fun q _ hl => b2.block q hl)
  have HK := hide (Ya k2 (Ya h2 (Ya n2 hxne)))
  have HQ := hide q2
  have HTK := hide (Ya htk htn)
  have HWX := hide hwx
  clear q2 HCS hgb hS hc hxj hwx htk htn hB hxb hw2 b2 n2 h2 k2 hbx hxne
  cases l1
  ·
   by_cases h0 : j = 0
   ·
    have g0 : ¬ ((0 : Int) < (j : Int)) := by omega
    obtain ⟨y0, y1⟩ : w2.cell? ⟨xb, 0, none⟩ = some (str x.name) ∧ w2.cell? ⟨xb, 1, none⟩ = some (.slice xa xn xc) := ⟨(Qaa (Qa HK).2.2.1 0).trans rfl, (Qaa (Qa HK).2.2.1 1).trans rfl⟩
    have hcl := Qa HWX w2 c1 false [str x.name, .slice xa xn xc] (Qa HQ) (Qa HK).2.1
    have H0 := hide h0
    clear h0
    go_upto_region 3 with fail
    rw [← (Qa HW2).1, (Qa HW2).2]
    go_wp2_with fail
    refine hcl.mono ?_
    clear hcl
    rintro en w3 ⟨rfl, k3, c3, l3, h3, t3⟩
    have H3 := hide (Ya k3 (Ya h3 t3))
    clear k3 h3 t3
    go_wp2_with fail
    go_roundw
    case rel =>
     obtain ⟨k3, h3, t3⟩ := Qa H3
     refine ⟨j + 1, c3, l3, by go_num, by omega, hide ⟨(Qa HK).1.trans k3, h3, ?_⟩⟩
     rw [(Qa HTK).1, Qa H0, List.take_zero]
     have q := (Qa HI).2.2
     rw [Qa H0, List.take_zero] at q
     have := q.trans t3
     simpa [joinT] using this
    case measure => simp [intOf]; omega
   have g0 : (0 : Int) < (j : Int) := by omega
   have had := Qav (Qa HK).2.1 sep (by omega)
   have H0 := hide h0
   clear h0
   go_upto_region 3 with fail
   rw [← (Qa HW2).1, (Qa HW2).2]
   go_wp2_with fail
   refine had.mono ?_
   clear had
   rintro en w3 ⟨rfl, k3, c3, l3, h3, t3⟩
   have n3 : w3.heap[xb]? = some (.cells #[str x.name, .slice xa xn xc] 119 (0, 0)) := k3.others xb _ (Qa HK).2.2.1 (fun e => (Qa HK).2.2.2 (by simpa using e)) (fun c fz e => by cases e)
   obtain ⟨y0, y1⟩ : w3.cell? ⟨xb, 0, none⟩ = some (str x.name) ∧ w3.cell? ⟨xb, 1, none⟩ = some (.slice xa xn xc) := ⟨(Qaa n3 0).trans rfl, (Qaa n3 1).trans rfl⟩
   have hcl := Qa HWX w3 c3 l3 [str x.name, .slice xa xn xc] (Qdq.same _ _ _ _ _ (Qa HQ) k3.below.size (fun q hq _ => k3.below.block q hq)) h3
   have H3 := hide (Ya k3 t3)
   clear k3 h3 t3 n3
   go_wp2_with fail
   refine hcl.mono ?_
   clear hcl
   rintro en w4 ⟨rfl, k4, c4, l4, h4, t4⟩
   have H4 := hide (Ya k4 (Ya h4 t4))
   clear k4 h4 t4
   go_wp2_with fail
   go_roundw
   case rel =>
    obtain ⟨k3, t3⟩ := Qa H3
    obtain ⟨k4, h4, t4⟩ := Qa H4
    refine ⟨j + 1, c4, l4, by go_num, by omega, hide ⟨((Qa HK).1.trans k3).trans k4, h4, ?_⟩⟩
    rw [(Qa HTK).1, Qct, if_neg ((Qa HTK).2 (Qa H0))]
    exact ((Qa HI).2.2.trans t3).trans t4
   case measure => simp [intOf]; omega
  go_upto_region 3 with fail
  rw [← (Qa HW2).1, (Qa HW2).2]
  go_wp2_with fail
  go_end0
  obtain ⟨k2, h2, _⟩ := Qa HK
  refine ⟨rfl, k2, c1, true, h2, (Qa HI).2.2.cut ?_⟩
  have := Qdv sep.data.toList ((xs.map T).take j) ((xs.map T).drop j)
  rwa [List.take_append_drop] at this
 have ej : j = n := by omega
 have HE := hide (show (xs.map T).take j = xs.map T by rw [ej, ← Qa HN, ← List.length_map (f := T)]; exact List.take_length)
 clear ej
 go_wp2_with fail
 go_end0
 refine ⟨rfl, (Qa HI).1, c1, l1, (Qa HI).2.1, ?_⟩
 have := (Qa HI).2.2
 rw [Qa HE] at this
 exact this
end
section
open Go.RowKit Go.Maps
def linesT (ts : List Txt) : Txt := ts.flatMap (· ++ [10])
theorem Qcj (ts : List Txt) (t : Txt) : linesT (ts ++ [t]) = linesT ts ++ (t ++ [10]) := by simp [linesT]
theorem Qdf (ts us : List Txt) : (linesT ts).length ≤ (linesT (ts ++ us)).length := by simp only [linesT, List.flatMap_append, List.length_append]; omega
theorem Qkr {B b : Nat} {c : Txt} {lg : Bool} {w : World} (h : Wr B b c lg w) {sa : Option Addr} {sc : Nat} {xs : List Ini} (hL : LsAt PIn 3 (fun q => q < B) w (.slice sa xs.length sc) xs) (T : Ini → Txt) (hW : ∀ x ∈ xs, PtM 33 B b PIn x (T x)) (hx : xs.length ≤ 9223372036854775807) :
  Calls Tryz.prog 32 #[.pointer (some ⟨b, 0, none⟩), .slice sa xs.length sc, .func (.func 33) #[.pointer (some ⟨b, 0, none⟩)] #[]] w fun e w' => WrA B b c lg (linesT (xs.map T)) w e w' := by
 have HH := hide h
 have HL := hide hL
 have HW := hide hW
 obtain ⟨n, hn⟩ : ∃ n, xs.length = n := ⟨_, rfl⟩
 rw [hn]
 have HN := hide hn
 have hn6 : n ≤ 9223372036854775807 := by omega
 clear h hL hW hn hx
 go_enter Tryz.func32, Tryz.ntmps32
 go_wp2_with fail
 go_loopw [10] (fun v wr => ∃ (j : Nat) (c1 : Txt) (l1 : Bool), v = .int .i64 (j : Int) ∧ j ≤ n ∧ Hid (Kept B b w wr ∧ Wr B b c1 l1 wr ∧ WT c lg (linesT ((xs.map T).take j)) c1 l1)) (fun v _ => n - (intOf v).toNat)
 case atStart => exact ⟨0, c, lg, rfl, Nat.zero_le _, hide ⟨Kept.refl _ _ _, Qa HH, WT.refl _ _ (Qa HH).few⟩⟩
 obtain ⟨j, c1, l1, rfl, hj, HI⟩ := hrel
 by_cases hlt : j < n
 ·
  obtain ⟨x, hxj⟩ : ∃ x, xs[j]? = some x := ⟨xs[j]'(by rw [Qa HN]; exact hlt), List.getElem?_eq_getElem _⟩
  obtain ⟨gb, cap, cs, e1, hgb, hS, _, hcs, hc⟩ := ((Qa HL).same Qbg (Qa HI).1.below.size (fun q hq _ => (Qa HI).1.below.block q hq)).elem hxj
  have HCS := hide hcs
  obtain rfl : cs = [str x.name, str x.comp, .int .i64 x.at_] := hcs
  simp only [Value.slice.injEq] at e1
  obtain ⟨rfl, -, -⟩ := e1
  have x0 : wr.cell? ⟨gb, j * 3, none⟩ = some (str x.name) := hc 0 _ rfl
  have x1 : wr.cell? ⟨gb, j * 3 + 1, none⟩ = some (str x.comp) := hc 1 _ rfl
  have x2 : wr.cell? ⟨gb, j * 3 + 2, none⟩ = some (.int .i64 x.at_) := hc 2 _ rfl
  have hwx := Qa HW x (List.mem_of_getElem? hxj)
  have htk : (xs.map T).take (j + 1) = (xs.map T).take j ++ [T x] := by rw [List.take_add_one, List.getElem?_map, hxj]; rfl
  have hB : B ≤ wr.heap.size := Nat.le_trans (Qa HI).2.1.le (Nat.le_of_lt (Qa HI).2.1.lt)
  obtain ⟨xb, hxb⟩ : ∃ xb, wr.heap.size = xb := ⟨_, rfl⟩
  obtain ⟨w2, hw2⟩ : ∃ w2, w2 = wr.alloc (.cells #[str x.name, str x.comp, .int .i64 x.at_] 77) := ⟨_, rfl⟩
  have b2 : Below wr.heap.size wr w2 := by rw [hw2]; exact (Below.refl _ wr).alloc (Nat.le_refl _) _
  have n2 : w2.heap[xb]? = some (.cells #[str x.name, str x.comp, .int .i64 x.at_] 77 (0, 0)) := by rw [hw2, ← hxb]; exact heap_alloc_new wr _
  have h2 := (Qa HI).2.1.later b2
  have k2 := (Qa HI).1.trans (Kept.later (b := b) hB b2)
  have q2 : PIn (fun q => q < B) w2 [str x.name, str x.comp, .int .i64 x.at_] x := Qbg.same _ _ _ _ _ (Qa HCS) b2.size (fun q _ hl => b2.block q hl)
  obtain ⟨p, v, hbx, _⟩ := h2.box
  obtain ⟨_, _, u2, _, uf⟩ := cl3w hbx
  obtain ⟨y0, y1, y2⟩ : w2.cell? ⟨xb, 0, none⟩ = some (str x.name) ∧ w2.cell? ⟨xb, 1, none⟩ = some (str x.comp) ∧ w2.cell? ⟨xb, 2, none⟩ = some (.int .i64 x.at_) := ⟨(Qaa n2 0).trans rfl, (Qaa n2 1).trans rfl, (Qaa n2 2).trans rfl⟩
  have HW2 := hide (Ya hw2 hxb)
  have HK := hide (Ya k2 h2)
  have HTK := hide htk
  have hcl := hwx w2 c1 l1 [str x.name, str x.comp, .int .i64 x.at_] q2 h2
  clear q2 HCS hgb hS hc hxj hwx htk hB hxb hw2 b2 n2 h2 k2 hbx
  cases l1
  ·
   go_upto_region 3 with fail
   rw [← (Qa HW2).1, (Qa HW2).2]
   go_wp2_with fail
   refine hcl.mono ?_
   clear hcl
   rintro en w3 ⟨rfl, k3, c3, l3, h3, t3⟩
   have had := Qav h3 ⟨#[10]⟩ (by decide)
   have H3 := hide (Ya k3 t3)
   clear k3 h3 t3
   go_wp2_with fail
   refine had.mono ?_
   clear had
   rintro en w4 ⟨rfl, k4, c4, l4, h4, t4⟩
   have H4 := hide (Ya k4 (Ya h4 t4))
   clear k4 h4 t4
   go_wp2_with fail
   go_roundw
   case rel =>
    obtain ⟨k3, t3⟩ := Qa H3
    obtain ⟨k4, h4, t4⟩ := Qa H4
    refine ⟨j + 1, c4, l4, by go_num, by omega, hide ⟨((Qa HK).1.trans k3).trans k4, h4, ?_⟩⟩
    rw [Qa HTK, Qcj]
    exact (Qa HI).2.2.trans (t3.trans t4)
   case measure => simp [intOf]; omega
  go_upto_region 3 with fail
  rw [← (Qa HW2).1, (Qa HW2).2]
  go_wp2_with fail
  go_end0
  obtain ⟨k2, h2⟩ := Qa HK
  refine ⟨rfl, k2, c1, true, h2, (Qa HI).2.2.cut ?_⟩
  have := Qdf ((xs.map T).take j) ((xs.map T).drop j)
  rwa [List.take_append_drop] at this
 have ej : j = n := by omega
 have HE := hide (show (xs.map T).take j = xs.map T by rw [ej, ← Qa HN, ← List.length_map (f := T)]; exact List.take_length)
 clear ej
 go_wp2_with fail
 go_end0
 refine ⟨rfl, (Qa HI).1, c1, l1, (Qa HI).2.1, ?_⟩
 have := (Qa HI).2.2
 rw [Qa HE] at this
 exact this
end
section
open Go.RowKit Go.Maps
def inT (x : Ini) : Txt := [46, 105, 110, 105, 116, 32] ++ x.name ++ [32, 61, 32] ++ x.comp
theorem Qrq {B b : Nat} (x : Ini) (h1 : x.name.length ≤ 140737488355328) (h2 : x.comp.length ≤ 140737488355328) : PtM 33 B b PIn x (inT x) := by
 intro w c lg cs hcs h
 obtain rfl : cs = [str x.name, str x.comp, .int .i64 x.at_] := hcs
 have hlt := h.lt
 have hB : B ≤ w.heap.size := Nat.le_trans h.le (Nat.le_of_lt hlt)
 obtain ⟨w1, hw1⟩ : ∃ w1, w1 = w.alloc (.cells #[str x.name, str x.comp, .int .i64 x.at_] 77) := ⟨_, rfl⟩
 have b1 : Below w.heap.size w w1 := by rw [hw1]; exact (Below.refl _ w).alloc (Nat.le_refl _) _
 have n1 : w1.heap[w.heap.size]? = some (.cells #[str x.name, str x.comp, .int .i64 x.at_] 77 (0, 0)) := by rw [hw1]; exact heap_alloc_new w _
 have s1 : w1.heap.size = w.heap.size + 1 := by rw [hw1]; simp
 obtain ⟨w2, hw2⟩ : ∃ w2, w2 = w1.alloc (.cells #[.string ⟨#[46, 105, 110, 105, 116, 32]⟩, str x.name, .string ⟨#[32, 61, 32]⟩, str x.comp] 9) := ⟨_, rfl⟩
 have b2 : Below w1.heap.size w1 w2 := by rw [hw2]; exact (Below.refl _ w1).alloc (Nat.le_refl _) _
 have n2 : w2.heap[w.heap.size + 1]? = some (.cells #[.string ⟨#[46, 105, 110, 105, 116, 32]⟩, str x.name, .string ⟨#[32, 61, 32]⟩, str x.comp] 9 (0, 0)) := by rw [hw2, ← s1]; exact heap_alloc_new w1 _
 have bw : Below w.heap.size w w2 := b1.trans (b2.mono (by omega))
 have hT : TsB b (w.heap.size + 1) w2 [[46, 105, 110, 105, 116, 32], x.name, [32, 61, 32], x.comp] := ⟨_, n2, by omega, fun j t hj => by
  match j, hj with
  | 0, hj => cases hj; rfl
  | 1, hj => cases hj; rfl
  | 2, hj => cases hj; rfl
  | 3, hj => cases hj; rfl
  | j + 4, hj => simp at hj⟩
 have hp := Qfh (cap := 4) (h.later bw) hT (fun t ht => by
  simp only [List.mem_cons, List.not_mem_nil, or_false] at ht
  rcases ht with rfl | rfl | rfl | rfl
  · decide
  · exact h1
  · decide
  · exact h2) (by simp)
 have HE := hide (Kept.later (b := b) hB bw)
 obtain ⟨x0, x1, xf⟩ : w1.cell? ⟨w.heap.size, 0, none⟩ = some (str x.name) ∧ w1.cell? ⟨w.heap.size, 1, none⟩ = some (str x.comp) ∧ ∀ o, w1.frozen? ⟨w.heap.size, o, none⟩ = false := ⟨(Qaa n1 0).trans rfl, (Qaa n1 1).trans rfl, fun o => by simp [World.frozen?, n1]⟩
 have HW1 := hide hw1
 have HW2 := hide (Ya hw2 s1)
 clear h h1 h2 hlt hB hw1 b1 n1 s1 hw2 b2 n2 bw hT
 go_enter Tryz.func33, Tryz.ntmps33
 go_wp2_with fail
 rw [← Qa HW1]
 go_wp2_with fail
 rw [← (Qa HW2).1]
 refine hp.mono ?_
 clear hp
 intro en w3 h3
 have H3 := hide h3
 obtain ⟨rfl, _⟩ := h3
 go_wp2_with fail
 go_end0
 have h3 := (Qa H3).from (Qa HE)
 have e : inT x = [[46, 105, 110, 105, 116, 32], x.name, [32, 61, 32], x.comp].flatten := by simp [inT]
 rw [e]
 exact h3
end
section
open Go.RowKit Go.Maps
def ctT (x : Ctr) : Txt := (x.name ++ [32, 123]) ++ joinT [44, 32] (x.fields.map fdT) ++ [125]
def Sh (t : Txt) : Prop := t.length ≤ 140737488355328
theorem Qro {B b : Nat} (x : Ctr) (h1 : Sh x.name) (h2 : ∀ f ∈ x.fields, Sh f.name ∧ Sh f.type) : PtM 65 B b PC x (ctT x) := by
 intro w c lg cs hcs h
 obtain ⟨xa, xn, xc, rfl, hfl⟩ := hcs
 obtain ⟨_, _, e⟩ := hfl.sl
 cases e
 have h3 := hfl.len
 have hlt := h.lt
 have hB : B ≤ w.heap.size := Nat.le_trans h.le (Nat.le_of_lt hlt)
 obtain ⟨xn, hxn⟩ : ∃ xn, x.fields.length = xn := ⟨_, rfl⟩
 obtain ⟨w1, hw1⟩ : ∃ w1, w1 = w.alloc (.cells #[str x.name, .slice xa x.fields.length xc] 119) := ⟨_, rfl⟩
 have b1 : Below w.heap.size w w1 := by rw [hw1]; exact (Below.refl _ w).alloc (Nat.le_refl _) _
 have n1 : w1.heap[w.heap.size]? = some (.cells #[str x.name, .slice xa x.fields.length xc] 119 (0, 0)) := by rw [hw1]; exact heap_alloc_new w _
 have s1 : w1.heap.size = w.heap.size + 1 := by rw [hw1]; simp
 obtain ⟨w2, hw2⟩ : ∃ w2, w2 = w1.alloc (.cells #[str x.name, .string ⟨#[32, 123]⟩] 9) := ⟨_, rfl⟩
 have b2 : Below w1.heap.size w1 w2 := by rw [hw2]; exact (Below.refl _ w1).alloc (Nat.le_refl _) _
 have n2 : w2.heap[w.heap.size + 1]? = some (.cells #[str x.name, .string ⟨#[32, 123]⟩] 9 (0, 0)) := by rw [hw2, ← s1]; exact heap_alloc_new w1 _
 have bw : Below w.heap.size w w2 := b1.trans (b2.mono (by omega))
 have hT : TsB b (w.heap.size + 1) w2 [x.name, [32, 123]] := ⟨_, n2, by omega, fun j t hj => by
  match j, hj with
  | 0, hj => cases hj; rfl
  | 1, hj => cases hj; rfl
  | j + 2, hj => simp at hj⟩
 have hp := Qfh (cap := 2) (h.later bw) hT (fun t ht => by
  simp only [List.mem_cons, List.not_mem_nil, or_false] at ht
  rcases ht with rfl | rfl
  · exact h1
  · decide) (by simp)
 have kw := Kept.later (b := b) hB bw
 have n12 := (b2.block _ (by omega)).trans n1
 have HE := hide (Ya kw (Ya n12 (Ya hfl (Ya h2 (Ya h3 hlt)))))
 obtain ⟨x0, xf⟩ : w1.cell? ⟨w.heap.size, 0, none⟩ = some (str x.name) ∧ ∀ o, w1.frozen? ⟨w.heap.size, o, none⟩ = false := ⟨(Qaa n1 0).trans rfl, fun o => by simp [World.frozen?, n1]⟩
 have HW1 := hide hw1
 have HW2 := hide (Ya hw2 s1)
 clear h h1 h2 h3 hlt hB hw1 b1 n1 s1 hw2 b2 n2 bw hT kw n12 hfl hxn
 go_enter Tryz.func65, Tryz.ntmps65
 go_wp2_with fail
 rw [← Qa HW1]
 go_wp2_with fail
 rw [← (Qa HW2).1]
 refine hp.mono ?_
 clear hp HW1 HW2 x0 xf
 rintro en w3 ⟨rfl, k3, c3, l3, g3, t3⟩
 obtain ⟨kw, n12, hfl, h2, h3, hlt⟩ := Qa HE
 have n3 : w3.heap[w.heap.size]? = some (.cells #[str x.name, .slice xa x.fields.length xc] 119 (0, 0)) := k3.others _ _ n12 (fun e => by simp at e; omega) (fun c fz e => by cases e)
 have x1 := (Qaa n3 1).trans (show #[str x.name, Value.slice xa x.fields.length xc][1]? = some (.slice xa x.fields.length xc) from rfl)
 have kw3 := kw.trans k3
 have hls := Qgw g3 ⟨#[44, 32]⟩ (by decide) (hfl.same Qbv kw3.below.size (fun q hq _ => kw3.below.block q hq)) fdT (fun f hf w c lg hw => Qgt hw f (h2 f hf).1 (h2 f hf).2) h3
 have H3 := hide (Ya kw3 t3)
 clear k3 g3 t3 n3 kw3 kw n12 hfl h2 h3 hlt
 go_wp2_with fail
 refine hls.mono ?_
 clear hls
 rintro en w4 ⟨rfl, k4, c4, l4, g4, t4⟩
 have had := Qav g4 ⟨#[125]⟩ (by decide)
 have H4 := hide (Ya k4 t4)
 clear k4 g4 t4
 go_wp2_with fail
 refine had.mono ?_
 clear had
 rintro en w5 ⟨rfl, k5, c5, l5, g5, t5⟩
 have H5 := hide (Ya k5 (Ya g5 t5))
 clear k5 g5 t5
 go_wp2_with fail
 go_end0
 obtain ⟨kw3, t3⟩ := Qa H3
 obtain ⟨k4, t4⟩ := Qa H4
 obtain ⟨k5, g5, t5⟩ := Qa H5
 refine ⟨rfl, (kw3.trans k4).trans k5, c5, l5, g5, ?_⟩
 have := (t3.trans t4).trans t5
 simpa [ctT] using this
end
end Go.Proofs.YtccehgfecaamoaaGreatDoor
