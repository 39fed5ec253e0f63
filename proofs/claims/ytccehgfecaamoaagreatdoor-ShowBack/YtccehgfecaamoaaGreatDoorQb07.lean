/- syn: lists of what was read, in memory. syn: the generic list, at Ex. syn: what stands between two signs, at Ex. -/
import Derived.Test.YtccehgfecaamoaaGreatDoorQb06
import Derived.Maps.AppendAt
set_option maxRecDepth 100000
set_option maxHeartbeats 32000000
namespace Go.Proofs.YtccehgfecaamoaaGreatDoor
section
open Go.RowKit Go.Maps
theorem Qbs {P : Program} (w : World) {ops : Array Oper} {rest : List Oper} {o : Oper} {a : Act} {Q : Exit → Act → World → Prop}
  (hg : o.guard = none) (s x : Operand) (t : TypeId) (hop : o.op = Op.call { callee := Callee.builtin Builtin.append, args := #[s, x], argTypes := #[t, t] })
  (v u : Value) (hs : a.eval s = v) (hx : a.eval x = u) (v' : Value) (w' : World) (hrun : (Builtin.append_ #[t, t] o.type #[v, u]).run P w = .ok v' w')
  (hK : wpList P ops Q rest (a.put o.dst v') w') : wpList P ops Q (o :: rest) a w := by
 refine wpList_plain hg fun K hK' => ?_
 unfold Oper.wp
 simp [execOp, hop, resolve, invoke, builtin, hs, hx, hrun, Result.andThen]
 exact hK' _ _ hK

abbrev PS (α : Type) := (Nat → Prop) → World → List Value → α → Prop
structure PSok {α : Type} (p : PS α) : Prop where
 mono : ∀ S S' w cs x, p S w cs x → (∀ b, b < w.heap.size → S b → S' b) → p S' w cs x
 same : ∀ S w w' cs x, p S w cs x → w.heap.size ≤ w'.heap.size → (∀ b, S b → b < w.heap.size → w'.heap[b]? = w.heap[b]?) → p S w' cs x
def All {α : Type} (p : PS α) (k : Nat) (S : Nat → Prop) (w : World) (css : List (List Value)) (xs : List α) : Prop := css.length = xs.length ∧ ∀ (j : Nat) (x : α) (cs : List Value), xs[j]? = some x → css[j]? = some cs → cs.length = k ∧ p S w cs x
def LsAt {α : Type} (p : PS α) (k : Nat) (S : Nat → Prop) (w : World) (v : Value) (xs : List α) : Prop := ∃ a cap css, v = .slice a xs.length cap ∧ xs.length ≤ cap ∧ cap ≤ maxLen ∧ All p k S w css xs ∧ (xs ≠ [] → ∃ b, a = some ⟨b, 0, none⟩ ∧ S b ∧ b < w.heap.size ∧ ∀ j c, css.flatten[j]? = some c → w.cell? ⟨b, j, none⟩ = some c)
section
variable {α : Type} {p : PS α} {k : Nat}
theorem All.mono (hp : PSok p) {S S' : Nat → Prop} {w : World} {css : List (List Value)} {xs : List α} (h : All p k S w css xs) (hS : ∀ b, b < w.heap.size → S b → S' b) : All p k S' w css xs :=
 ⟨h.1, fun j x cs h1 h2 => ⟨(h.2 j x cs h1 h2).1, hp.mono _ _ _ _ _ (h.2 j x cs h1 h2).2 hS⟩⟩
theorem All.same (hp : PSok p) {S : Nat → Prop} {w w' : World} {css : List (List Value)} {xs : List α} (h : All p k S w css xs) (hs : w.heap.size ≤ w'.heap.size) (hb : ∀ b, S b → b < w.heap.size → w'.heap[b]? = w.heap[b]?) : All p k S w' css xs :=
 ⟨h.1, fun j x cs h1 h2 => ⟨(h.2 j x cs h1 h2).1, hp.same _ _ _ _ _ (h.2 j x cs h1 h2).2 hs hb⟩⟩
theorem All.snoc {S : Nat → Prop} {w : World} {css : List (List Value)} {xs : List α} {cs : List Value} {x : α} (h : All p k S w css xs) (hl : cs.length = k) (hx : p S w cs x) : All p k S w (css ++ [cs]) (xs ++ [x]) := by
 refine ⟨by simp [h.1], fun j y c h1 h2 => ?_⟩
 by_cases hj : j < xs.length
 ·
  rw [List.getElem?_append_left hj] at h1
  rw [List.getElem?_append_left (by rw [h.1]; exact hj)] at h2
  exact h.2 j y c h1 h2
 rw [List.getElem?_append_right (by omega)] at h1
 rw [List.getElem?_append_right (by rw [h.1]; omega), h.1] at h2
 have hz : j - xs.length = 0 := by
  have := (List.getElem?_eq_some_iff.1 h1).1
  simp at this
  omega
 rw [hz] at h1 h2
 simp at h1 h2
 subst h1 h2
 exact ⟨hl, hx⟩
theorem LsAt.mono (hp : PSok p) {S S' : Nat → Prop} {w : World} {v : Value} {xs : List α} (h : LsAt p k S w v xs) (hS : ∀ b, b < w.heap.size → S b → S' b) : LsAt p k S' w v xs := by
 obtain ⟨a, cap, css, h1, h2, h3, h4, h5⟩ := h
 refine ⟨a, cap, css, h1, h2, h3, h4.mono hp hS, fun hn => ?_⟩
 obtain ⟨b, e1, e2, e3, e4⟩ := h5 hn
 exact ⟨b, e1, hS b e3 e2, e3, e4⟩
theorem LsAt.same (hp : PSok p) {S : Nat → Prop} {w w' : World} {v : Value} {xs : List α} (h : LsAt p k S w v xs) (hs : w.heap.size ≤ w'.heap.size) (hb : ∀ b, S b → b < w.heap.size → w'.heap[b]? = w.heap[b]?) : LsAt p k S w' v xs := by
 obtain ⟨a, cap, css, h1, h2, h3, h4, h5⟩ := h
 refine ⟨a, cap, css, h1, h2, h3, h4.same hp hs hb, fun hn => ?_⟩
 obtain ⟨b, e1, e2, e3, e4⟩ := h5 hn
 refine ⟨b, e1, e2, by omega, fun j c hj => ?_⟩
 have := e4 j c hj
 simp only [World.cell?] at this ⊢
 rw [hb b e2 e3]; exact this
theorem LsAt.nil (S : Nat → Prop) (w : World) : LsAt p k S w (.slice none 0 0) [] := ⟨none, 0, [], rfl, Nat.le_refl _, Nat.zero_le _, ⟨rfl, fun j x cs h => by simp at h⟩, fun h => absurd rfl h⟩
theorem LsAt.of {base : Nat} {T : TypeId} {w : World} {v : Value} {css : List (List Value)} {xs : List α} (ho : w.ownsRow base T k v xs.length css.flatten) (ha : All p k (fun b => base ≤ b) w css xs) : LsAt p k (fun b => base ≤ b) w v xs := by
 rcases id ho.2 with ⟨e, e2⟩ | ⟨g, cap, cur, e, hb, hg, hn, hm, _⟩
 ·
  have hx : xs = [] := List.length_eq_zero_iff.1 e2
  subst hx
  rw [e]
  exact LsAt.nil _ _
 refine ⟨some ⟨g, 0, none⟩, cap, css, e, hn, hm, ha, fun _ => ⟨g, rfl, hb, Qag hg, fun j c hj => ?_⟩⟩
 subst e
 have hl : j < xs.length * k := by rw [← ho.1]; exact (List.getElem?_eq_some_iff.1 hj).1
 rw [World.ownsRow.cellAt ho j hl]; exact hj
structure LI (p : PS α) (k : Nat) (T : TypeId) (rb e dp : Nat) (sep : Txt) (most : Nat) (part : Pr α) (r0 : Rs (List α)) (w : World) (sl : Value) (wr : World) (acc : List α) (l : List Tok) (it f : Nat) : Prop where
 kp : Kp rb w wr
 rd : Rd rb e wr l it dp
 own : ∃ css, wr.ownsRow w.heap.size T k sl acc.length css.flatten ∧ All p k (fun b => w.heap.size ≤ b ∧ some b ≠ sl.ownBlock) wr css acc
 eq : r0 = listL e sep most part f acc l it
 fuel : l.length + 1 ≤ f
 few : acc.length + l.length ≤ 65536
def left (rb : Nat) (w : World) : Nat := match w.cell? ⟨rb, 0, none⟩ with | some (.slice _ n _) => n | _ => 0
theorem Qbz {rb e : Nat} {w : World} {l : List Tok} {it dp : Nat} (h : Rd rb e w l it dp) : left rb w = l.length := by
 obtain ⟨a, cap, c0, _⟩ := h.cells
 unfold left
 rw [c0]
theorem LI.more (hp : PSok p) {T ST : TypeId} {i0 : TypeInfo} {z : Value} {by_ : Nat} (ht : Tryz.prog.underlying ST = some (.slice T)) (hi : Tryz.prog.info? T = some i0) (hz : i0.zero = some z) (hsz : i0.size = k) (hby : i0.bytes = by_) (hzc : z.cells.size = k) (hk : 0 < k) (hb6 : by_ ≤ 1000)
  {rb e dp : Nat} {sep : Txt} {most : Nat} {part : Pr α} {r0 : Rs (List α)} {w wr w2 : World} {sl : Value} {acc : List α} {l l2 : List Tok} {it i2 f : Nat} (h : LI p k T rb e dp sep most part r0 w sl wr acc l it f) {x : α} {cs : List Value}
  (hl : cs.length = k) (h1 : ∀ c ∈ cs, c.oneCell' = true) (hx : p (fun b => wr.heap.size ≤ b) w2 cs x) (hR : Rd rb e w2 l2 i2 dp) (k2 : Kp rb wr w2) (hrb : rb < w.heap.size) :
  ∃ r w8, (Builtin.append_ #[ST, ST] ST #[sl, .slice (some ⟨w2.heap.size, 0, none⟩) 1 1]).run Tryz.prog (w2.alloc (.cells cs.toArray T)) = .ok r w8 ∧ Kp rb w w8 ∧ Rd rb e w8 l2 i2 dp ∧ (∃ a c, r = .slice a (acc.length + 1) c) ∧
   ∃ css, w8.ownsRow w.heap.size T k r (acc ++ [x]).length css.flatten ∧ All p k (fun b => w.heap.size ≤ b ∧ some b ≠ r.ownBlock) w8 css (acc ++ [x]) := by
 obtain ⟨css, ho, ha⟩ := h.own
 have hs0 := h.kp.size
 have hs2 := k2.size
 have hown : ∀ b, some b = sl.ownBlock → w.heap.size ≤ b ∧ b < wr.heap.size := fun b e => World.ownsRow.lt ho b e.symm
 have ho2 : (w2.alloc (.cells cs.toArray T)).ownsRow w.heap.size T k sl acc.length css.flatten := by
  refine World.ownsRow.alloc ?_ _
  refine ⟨ho.1, ?_⟩
  rcases ho.2 with e | ⟨g, cap, cur, e1, e2, e3, e4⟩
  · exact .inl e
  · exact .inr ⟨g, cap, cur, e1, e2, k2.keep e3 (by omega), e4⟩
 have hf := h.few
 obtain ⟨r, w8, hr, o8, g8, _, a8⟩ := run_append_own_at (P := Tryz.prog) (w2.alloc (.cells cs.toArray T)) w.heap.size ST ST T i0 z k by_ ht hi hz hsz hby hzc hk sl acc.length css.flatten ho2 ⟨w2.heap.size, 0, none⟩ 1 1 cs (by rw [hl, Nat.one_mul]) (fun j u hj => by
  have e1 : (⟨w2.heap.size, 0, none⟩ : Addr).add j = ⟨w2.heap.size, j, none⟩ := by cases j <;> simp [Addr.add]
  rw [e1, Qab (heap_alloc_new w2 _)]
  simpa using hj) h1 (by unfold maxLen; omega) (by
  have h3 : acc.length + 1 ≤ 65537 := by omega
  have := Nat.mul_le_mul h3 hb6
  omega) (by simp; omega)
 have hz2 : (w2.alloc (.cells cs.toArray T)).heap.size = w2.heap.size + 1 := by simp
 have hs8 := g8.size
 have hsame : ∀ b, b < w2.heap.size → some b ≠ sl.ownBlock → w8.heap[b]? = w2.heap[b]? := fun b hb hn => by
  rw [g8.block b (by omega) hn, Below.heap_alloc _ _ _ hb]
 have kp8 : Kp rb w w8 := by
  have hb := (Below.refl w2.heap.size w2).alloc (Nat.le_refl _) (.cells cs.toArray T)
  refine ⟨g8.os.trans (hb.os.trans (k2.os.trans h.kp.os)), g8.tape.trans (hb.tape.trans (k2.tape.trans h.kp.tape)), g8.output.trans (hb.output.trans (k2.output.trans h.kp.output)), by omega, fun j hj hn => ?_⟩
  rw [hsame j (by omega) (fun e => by have := (hown j e).1; omega), k2.block j (by omega) hn]
  exact h.kp.block j hj hn
 have rd8 : Rd rb e w8 l2 i2 dp := by
  obtain ⟨v, q1, a, cap, q2, q3, q4, q5⟩ := hR.box
  have hrl := Qag q1
  refine ⟨⟨v, (hsame rb hrl (fun e => by have := (hown rb e).1; omega)).trans q1, a, cap, q2, q3, q4, fun j t hj => ?_⟩, hR.num, hR.len, hR.end_⟩
  obtain ⟨b, o, e1, e2, e3⟩ := q5 j t hj
  exact ⟨b, o, e1, e2, e3.same (hsame b e3.lt (fun e => by have := (hown b e).1; omega))⟩
 have hrn : ∀ b, some b = r.ownBlock → some b = sl.ownBlock ∨ w2.heap.size < b + 1 ∧ w2.heap.size + 1 ≤ b := fun b e => by
  rcases a8 with e2 | e2
  · exact .inl (e.trans e2)
  rw [e2] at e
  simp only [Option.some.injEq] at e
  exact .inr (by omega)
 have hrow : ∃ a c, r = .slice a (acc.length + 1) c := by
  rcases o8.2 with ⟨_, e⟩ | ⟨g, cap, cur, e, _⟩
  · omega
  · exact ⟨_, _, e⟩
 refine ⟨r, w8, hr, kp8, rd8, hrow, css ++ [cs], by rw [List.length_append]; simpa using o8, ?_⟩
 have hold : All p k (fun b => w.heap.size ≤ b ∧ some b ≠ r.ownBlock) w8 css acc := by
  have h2 : All p k (fun b => (w.heap.size ≤ b ∧ some b ≠ sl.ownBlock) ∧ b < wr.heap.size) w2 css acc := (ha.mono hp (fun b hb hs => ⟨hs, hb⟩)).same hp hs2 (fun b hs hb => k2.block b hb (by omega))
  have h3 := h2.same hp (w' := w8) (by omega) (fun b hs hb => hsame b hb hs.1.2)
  refine h3.mono hp (fun b _ hs => ⟨hs.1.1, fun e => ?_⟩)
  rcases hrn b e with e | e
  · exact hs.1.2 e
  · omega
 refine hold.snoc hl ?_
 have hx2 := hp.mono _ (fun b => wr.heap.size ≤ b ∧ b < w2.heap.size) _ _ _ hx (fun b hb hs => ⟨hs, hb⟩)
 have hx3 := hp.same _ _ w8 _ _ hx2 (by omega) (fun b hs hb => hsame b hb (fun e => by have := (hown b e).2; omega))
 refine hp.mono _ _ _ _ _ hx3 (fun b _ hs => ⟨by omega, fun e => ?_⟩)
 rcases hrn b e with e | e
 · have := (hown b e).2; omega
 · omega
end
end
section
open Go.RowKit Go.Maps
theorem infoE : ∃ i0 : TypeInfo, Tryz.prog.info? 67 = some i0 ∧ i0.zero = some (.agg #[.int .i64 0, .int .i64 0, .string ⟨#[]⟩, .slice none 0 0, .int .i64 0]) ∧ i0.size = 5 ∧ i0.bytes = 64 := by
 have h : (Tryz.prog.info? 67).map (fun i => (i.zero, i.size, i.bytes)) = some (some (.agg #[.int .i64 0, .int .i64 0, .string ⟨#[]⟩, .slice none 0 0, .int .i64 0]), 5, 64) := by kernel_rfl
 obtain ⟨i0, hi, hi3⟩ := Option.map_eq_some_iff.1 h
 simp only [Prod.mk.injEq] at hi3
 exact ⟨i0, hi, hi3⟩
def PartE (p : PS Ex) (rb e dp : Nat) (part : Pr Ex) : Prop := ∀ (w : World) (l : List Tok) (it : Nat), Rd rb e w l it dp → Calls Tryz.prog 144 #[.pointer (some ⟨rb, 0, none⟩)] w fun en w' => Ans rb e dp w (fun w2 v x => ∃ c0 c1 c2 c3 c4, v = .agg #[c0, c1, c2, c3, c4] ∧ (∀ c ∈ ([c0, c1, c2, c3, c4] : List Value), c.oneCell' = true) ∧ p (fun b => w.heap.size ≤ b) w2 [c0, c1, c2, c3, c4] x) (part l it) en w'

theorem Qws (p : PS Ex) (hp : PSok p) {rb e dp : Nat} {part : Pr Ex} (hpart : PartE p rb e dp part) (hshr : Shr part) {w : World} {l : List Tok} {it : Nat} (h : Rd rb e w l it dp) (sep : Txt) (hsep : sep ≠ []) (most : Nat) :
  Calls Tryz.prog 159 #[.pointer (some ⟨rb, 0, none⟩), str sep, .int .i64 (most : Int), .func (.func 144) #[.pointer (some ⟨rb, 0, none⟩)] #[]] w fun en w' => Ans rb e dp w (fun w2 v xs => LsAt p 5 (fun b => w.heap.size ≤ b) w2 v xs) (listP e sep most part l it) en w' := by
 obtain ⟨r0, hr0⟩ : ∃ r0, r0 = listP e sep most part l it := ⟨_, rfl⟩
 have hst : LI p 5 67 rb e dp sep most part r0 w (.slice none 0 0) w [] l it (l.length + 1) := ⟨Kp.refl rb w, h, ⟨[], World.ownsRow_nil _ _ _ _, ⟨rfl, fun j x cs hx => by simp at hx⟩⟩, hr0, Nat.le_refl _, by have := h.len; simpa using this⟩
 rw [← hr0]
 obtain ⟨PO, hPO⟩ : ∃ PO : Ending → World → Prop, PO = fun en w' => Ans rb e dp w (fun w2 v xs => LsAt p 5 (fun b => w.heap.size ≤ b) w2 v xs) r0 en w' := ⟨_, rfl⟩
 rw [← hPO]
 have HPO := hide hPO
 have HST := hide hst
 have HP := hide (Ya hpart (Ya hshr hp))
 have hrb := h.lt
 clear hst hr0 hPO hpart hshr h hp
 obtain ⟨i0, hi, hz, hsz, hby⟩ := infoE
 have HIN := hide (Ya hi (Ya hz (Ya hsz hby)))
 have ht : Tryz.prog.underlying 59 = some (.slice 67) := by kernel_rfl
 have HTY := hide ht
 clear hi hz hsz hby ht
 go_enter Tryz.func159, Tryz.ntmps159
 go_wp2_with fail
 go_loopw [9] (fun sl wr => ∃ acc l' it' f sa sc, sl = .slice sa (List.length acc) sc ∧ LI p 5 67 rb e dp sep most part r0 w sl wr acc l' it' f) (fun _ wr => left rb wr)
 case atStart => exact ⟨[], l, it, _, none, 0, rfl, Qa HST⟩
 obtain ⟨acc, l', it', f, sa, sc, rfl, hL⟩ := hrel
 clear HST
 obtain ⟨f', rfl⟩ : ∃ f', f = f' + 1 := ⟨f - 1, by have := hL.fuel; omega⟩
 by_cases hm : acc.length = most
 ·
  have hr := Qbr hL.rd 3
  have hE : r0 = .bad 3 (ahd e 0 l').at_ l' := by
   rw [hL.eq]
   unfold listL
   rw [if_pos hm]; rfl
  have HE := hide (Ya hE hL.kp)
  have hm2 : ((acc.length : Int) == (most : Int)) = true := by rw [hm]; simp
  clear hL hE hm
  generalize (ahd e 0 l').at_ = at0 at hr HE
  go_wp2_with fail
  refine hr.mono ?_
  clear hr
  rintro en w3 ⟨rfl, b3⟩
  have H3 := hide ((Qa HE).2.trans (Kp.of_below b3))
  clear b3
  go_wp2_with fail
  refine ⟨rfl, ?_⟩
  rw [Qa HPO, (Qa HE).1]
  exact ⟨rfl, Qa H3⟩
 have hm2 : ((acc.length : Int) == (most : Int)) = false := by simp; omega
 obtain ⟨hpart, hshr, hp⟩ := Qa HP
 have hc := hpart wr l' it' hL.rd
 have hE : r0 = (part l' it').bind fun x l i => if sgn e l = sep then listL e sep most part f' (acc ++ [x]) (l.drop 1) i else .ok (acc ++ [x]) l i := by
  rw [hL.eq]
  conv => lhs; unfold listL
  rw [if_neg hm]
 cases hq : part l' it' with
 | bad why at0 l2 =>
  rw [hq] at hc hE
  have HE := hide (Ya hE hL.kp)
  clear hL hE hm hpart hshr hp hq
  go_wp2_with fail
  refine hc.mono ?_
  clear hc
  rintro en w3 ⟨rfl, k3⟩
  have H3 := hide ((Qa HE).2.trans k3)
  clear k3
  go_wp2_with fail
  refine ⟨rfl, ?_⟩
  rw [Qa HPO, (Qa HE).1]
  exact ⟨rfl, Qa H3⟩
 | ok x l2 i2 =>
  have hle := hshr _ _ _ _ _ hq
  rw [hq] at hc hE
  have HE := hide (Ya hL hE)
  clear hL hE hm hpart hshr hp hq
  go_wp2_with fail
  refine hc.mono ?_
  clear hc
  rintro en w2 ⟨_, rfl, ⟨c0, c1, c2, c3, c4, rfl, h1, hx⟩, hR2, k2⟩
  obtain ⟨hL, hE⟩ := Qa HE
  obtain ⟨hi, hz, hsz, hby⟩ := Qa HIN
  obtain ⟨r, w8, hrun, kp8, rd8, ⟨ra, rc, er⟩, hown8⟩ := hL.more (Qa HP).2.2 (Qa HTY) hi hz hsz hby rfl (by decide) (by decide) (cs := [c0, c1, c2, c3, c4]) rfl h1 hx hR2 k2 hrb
  subst er
  have HRUN := hide hrun
  have hsk := Qcb rd8 sep hsep
  have hfu := hL.fuel
  have hfw := hL.few
  have hlf := Qbz hL.rd
  have H8 := hide (Ya kp8 (Ya hown8 hE))
  clear hL hE hi hz hsz hby h1 hx hR2 k2 hrun kp8 rd8 hown8 HE
  go_wp2_with (at_builtin; refine Qbs _ rfl _ _ 59 rfl _ _ rfl rfl _ _ (Qa HRUN) ?_; clear HRUN)
  refine hsk.mono ?_
  clear hsk
  rintro en w9 ⟨rfl, hR9, k9⟩
  obtain ⟨kp8, ⟨css, ho8, ha8⟩, hE⟩ := Qa H8
  have own9 : w9.ownsRow w.heap.size 67 5 (.slice ra (acc.length + 1) rc) (acc ++ [x]).length css.flatten := by
   refine ⟨ho8.1, ?_⟩
   rcases ho8.2 with q | ⟨g, cap, cur, e1, e2, e3, e4⟩
   · exact .inl q
   · exact .inr ⟨g, cap, cur, e1, e2, k9.keep e3 (by omega), e4⟩
  have all9 := ha8.same (Qa HP).2.2 k9.size (fun b hs hb => k9.block b hb (by omega))
  have kp9 := kp8.trans k9
  clear kp8 ho8 ha8 k9 H8
  by_cases hS : sgn e l2 = sep
  ·
   rw [if_pos hS] at hR9
   have hS2 : decide (sgn e l2 = sep) = true := decide_eq_true hS
   obtain ⟨t2, l3, e2, hq2⟩ := Qci hS hsep
   clear hq2
   subst e2
   have hN : LI p 5 67 rb e dp sep most part r0 w (.slice ra (acc.length + 1) rc) w9 (acc ++ [x]) l3 i2 f' := ⟨kp9, hR9, ⟨css, own9, all9⟩, by rw [hE]; show (if sgn e (t2 :: l3) = sep then _ else _) = _; rw [if_pos hS]; rfl, by simp at hle; omega, by simp at hle ⊢; omega⟩
   have hl9 := Qbz hR9
   have HN := hide hN
   rw [hS2]
   have HL9 := hide (Ya hl9 (Ya hlf hle))
   clear hN hR9 own9 all9 kp9 hE hS hS2 hl9 hlf hle
   go_wp2_with fail
   go_roundw
   case rel => exact ⟨_, _, _, _, ra, rc, by simp, Qa HN⟩
   obtain ⟨q1, q2, q3⟩ := Qa HL9
   rw [q1, q2]
   simp at q3 ⊢
   omega
  rw [if_neg hS] at hR9
  have hS2 : decide (sgn e l2 = sep) = false := decide_eq_false hS
  have hF : r0 = .ok (acc ++ [x]) l2 i2 := by rw [hE]; show (if sgn e l2 = sep then _ else _) = _; rw [if_neg hS]
  have HF : Hid (r0 = .ok (acc ++ [x]) l2 i2 ∧ LsAt p 5 (fun b => w.heap.size ≤ b) w9 (.slice ra (acc.length + 1) rc) (acc ++ [x]) ∧ Rd rb e w9 l2 i2 dp ∧ Kp rb w w9) := ⟨hF, LsAt.of own9 (all9.mono (Qa HP).2.2 (fun b _ hs => hs.1)), hR9, kp9⟩
  rw [hS2]
  clear hF hR9 own9 all9 kp9 hE hS hS2 hlf hle
  go_wp2_with fail
  rw [Qa HPO, (Qa HF).1]
  exact ⟨_, rfl, (Qa HF).2⟩
end
section
open Go.RowKit Go.Maps
theorem Qmk (p : PS Ex) (hp : PSok p) {rb e dp : Nat} {part : Pr Ex} (hpart : PartE p rb e dp part) (hshr : Shr part) {w : World} {l : List Tok} {it : Nat} (h : Rd rb e w l it dp) (op cl : Txt) (hop : op ≠ []) (hcl : cl ≠ []) :
  Calls Tryz.prog 143 #[.pointer (some ⟨rb, 0, none⟩), str op, str cl, .func (.func 144) #[.pointer (some ⟨rb, 0, none⟩)] #[]] w fun en w' => Ans rb e dp w (fun w2 v xs => LsAt p 5 (fun b => w.heap.size ≤ b) w2 v xs) (encl e op cl part l it) en w' := by
 have hw := Qch h op hop
 obtain ⟨PO, hPO⟩ : ∃ PO : Ending → World → Prop, PO = fun en w' => Ans rb e dp w (fun w2 v xs => LsAt p 5 (fun b => w.heap.size ≤ b) w2 v xs) (encl e op cl part l it) en w' := ⟨_, rfl⟩
 rw [← hPO]
 have hrb := h.lt
 have HP := hide (Ya hpart (Ya hshr hp))
 clear h hpart hshr hp
 unfold encl at hPO
 cases hq : want e op l it with
 | bad why at0 l2 =>
  rw [hq] at hw hPO
  have HPO := hide hPO
  clear hPO hq
  go_enter Tryz.func143, Tryz.ntmps143
  go_wp2_with fail
  refine hw.mono ?_
  clear hw
  rintro en w2 ⟨rfl, k2⟩
  have H2 := hide k2
  clear k2
  go_wp2_with fail
  refine ⟨rfl, ?_⟩
  rw [Qa HPO]
  exact ⟨rfl, Qa H2⟩
 | ok u l2 i2 =>
  rw [hq] at hw hPO
  have HPO := hide hPO
  clear hPO hq
  go_enter Tryz.func143, Tryz.ntmps143
  go_wp2_with fail
  refine hw.mono ?_
  clear hw
  rintro en w2 ⟨_, rfl, rfl, hR2, k2⟩
  have hsk := Qcb hR2 cl hcl
  have K2 := hide k2
  clear hR2 k2
  by_cases hS : sgn e l2 = cl
  ·
   rw [if_pos hS, decide_eq_true hS] at hsk
   have HP2 : Hid (PO = fun en w' => Ans rb e dp w (fun w2 v xs => LsAt p 5 (fun b => w.heap.size ≤ b) w2 v xs) (.ok [] (l2.drop 1) i2) en w') := by
    have := Qa HPO
    simp only [Rs.bind] at this
    rw [if_pos hS] at this
    exact this
   clear hS HPO
   go_wp2_with fail
   refine hsk.mono ?_
   clear hsk
   rintro en w3 ⟨rfl, hR3, k3⟩
   have H3 := hide (Ya hR3 ((Qa K2).trans k3))
   clear hR3 k3
   go_wp2_with fail
   rw [Qa HP2]
   exact ⟨_, rfl, LsAt.nil _ _, Qa H3⟩
  rw [if_neg hS, decide_eq_false hS] at hsk
  have HP2 : Hid (PO = fun en w' => Ans rb e dp w (fun w2 v xs => LsAt p 5 (fun b => w.heap.size ≤ b) w2 v xs) ((listP e [44] 8 part l2 i2).bind fun xs l i => (want e cl l i).map fun _ => xs) en w') := by
   have := Qa HPO
   simp only [Rs.bind] at this
   rw [if_neg hS] at this
   exact this
  clear hS HPO
  go_wp2_with fail
  refine hsk.mono ?_
  clear hsk
  rintro en w3 ⟨rfl, hR3, k3⟩
  have hls := Qws p (Qa HP).2.2 (Qa HP).1 (Qa HP).2.1 hR3 [44] (by simp) 8
  have K3 := hide ((Qa K2).trans k3)
  clear hR3 k3
  cases hq : listP e [44] 8 part l2 i2 with
  | bad why at0 l4 =>
   rw [hq] at hls
   have HP3 : Hid (PO = fun en w' => en = .panicked [{ v := stopV why at0, recovered := false }] ∧ Kp rb w w') := by
    have := Qa HP2
    rw [hq] at this
    exact this
   clear hq HP2
   go_wp2_with fail
   refine hls.mono ?_
   clear hls
   rintro en w4 ⟨rfl, k4⟩
   have H4 := hide ((Qa K3).trans k4)
   clear k4
   go_wp2_with fail
   refine ⟨rfl, ?_⟩
   rw [Qa HP3]
   exact ⟨rfl, Qa H4⟩
  | ok xs l4 i4 =>
   rw [hq] at hls
   have HP3 : Hid (PO = fun en w' => Ans rb e dp w (fun w2 v xs => LsAt p 5 (fun b => w.heap.size ≤ b) w2 v xs) ((want e cl l4 i4).map fun _ => xs) en w') := by
    have := Qa HP2
    rw [hq] at this
    exact this
   clear hq HP2
   go_wp2_with fail
   refine hls.mono ?_
   clear hls
   rintro en w4 ⟨lv, rfl, hLs, hR4, k4⟩
   obtain ⟨la, lc, lcss, elv, _⟩ := id hLs
   subst elv
   have hwt := Qch hR4 cl hcl
   have K4 := hide (Ya ((Qa K3).trans k4) (Ya (Qa K3).size hLs))
   clear hR4 k4 hLs
   cases hq2 : want e cl l4 i4 with
   | bad why at0 l5 =>
    rw [hq2] at hwt
    have HP4 : Hid (PO = fun en w' => en = .panicked [{ v := stopV why at0, recovered := false }] ∧ Kp rb w w') := by
     have := Qa HP3
     rw [hq2] at this
     exact this
    clear hq2 HP3
    go_wp2_with fail
    refine hwt.mono ?_
    clear hwt
    rintro en w5 ⟨rfl, k5⟩
    have H5 := hide ((Qa K4).1.trans k5)
    clear k5
    go_wp2_with fail
    refine ⟨rfl, ?_⟩
    rw [Qa HP4]
    exact ⟨rfl, Qa H5⟩
   | ok u5 l5 i5 =>
    rw [hq2] at hwt
    have HP4 : Hid (PO = fun en w' => ∃ v, en = .returned v ∧ LsAt p 5 (fun b => w.heap.size ≤ b) w' v xs ∧ Rd rb e w' l5 i5 dp ∧ Kp rb w w') := by
     have := Qa HP3
     rw [hq2] at this
     exact this
    clear hq2 HP3
    go_wp2_with fail
    refine hwt.mono ?_
    clear hwt
    rintro en w5 ⟨_, rfl, rfl, hR5, k5⟩
    have hL5 := ((Qa K4).2.2.mono (Qa HP).2.2 (S' := fun b => w.heap.size ≤ b) (fun b _ hs => Nat.le_trans (Qa K4).2.1 hs)).same (Qa HP).2.2 k5.size (fun b hs hb => k5.block b hb (by omega))
    have H5 := hide (Ya hL5 (Ya hR5 ((Qa K4).1.trans k5)))
    clear hL5 hR5 k5
    go_wp2_with fail
    rw [Qa HP4]
    exact ⟨_, rfl, Qa H5⟩
end
end Go.Proofs.YtccehgfecaamoaaGreatDoor
