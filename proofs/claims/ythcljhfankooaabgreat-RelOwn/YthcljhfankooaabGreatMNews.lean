/- list: the tuples that are yielded, gathered. Same: are two lists of tuples the same. Sets told by their tuples. Range of a set told by its tuples. New that is refused; Order. -/
import Derived.Test.YthcljhfankooaabGreatBHFrom
import Derived.Maps.OwnIn
import Derived.RangeFuncBox
import Derived.Test.YthcljhfankooaabGreatBAllG
import Derived.Test.YthcljhfankooaabGreatBInsert
namespace Go.Proofs.YthcljhfankooaabGreat
open Go.RowKit Go.Shelf Go.Maps

attribute [local go_sem] Oper.semAt_some

/-- An iterator that goes over these, whenever it is called. -/
def GoesH (g : Nat) (lb : Array Value) (its : List Item) (S : Nat → Prop) (w : World) : Prop := ∀ W, Step w.heap.size w W → GoesAtH g lb its.length (Hands its) S W
theorem GoesH.step {g : Nat} {lb : Array Value} {its : List Item} {S : Nat → Prop} {w w' : World} (h : GoesH g lb its S w) (hs : Step w.heap.size w w') : GoesH g lb its S w' := fun W hW => h W (hs.trans (hW.mono hs.size))

/-- A slice of tuples. -/
def ListAt (B : Nat → Prop) (w : World) (v : Value) (xs : List (List Int)) : Prop := ∃ f : Nat → Value, Row B w v xs.length f ∧ ∀ j, j < xs.length → IntsS B w (f j) (xs.getD j [])
theorem ListAt.stays {B : Nat → Prop} {w w' : World} {v : Value} {xs : List (List Int)} (h : ListAt B w v xs) (hs : Stays B w w') : ListAt B w' v xs := by
  obtain ⟨f, h1, h2⟩ := h
  exact ⟨f, h1.stays hs, fun j hj => (h2 j hj).stays hs⟩
theorem ListAt.later {B : Nat → Prop} {w w' : World} {v : Value} {xs : List (List Int)} (h : ListAt B w v xs) (hs : Below w.heap.size w w') : ListAt B w' v xs := h.stays (Stays.of_below hs)
theorem ListAt.mono {B B' : Nat → Prop} {w : World} {v : Value} {xs : List (List Int)} (h : ListAt B w v xs) (hs : ∀ b, b < w.heap.size → B b → B' b) : ListAt B' w v xs := by
  obtain ⟨f, h1, h2⟩ := h
  exact ⟨f, h1.mono hs, fun j hj => (h2 j hj).mono hs⟩

theorem ownsRow_step {base b0 : Nat} {e : TypeId} {size k : Nat} {v : Value} {xs : List Value} {A B : World} (h : A.ownsRow base e size v k xs) (hs : Step b0 A B) : B.ownsRow base e size v k xs := by
  refine ⟨h.1, ?_⟩
  rcases h.2 with h | ⟨g, cap, cur, h1, h2, h3, h4⟩
  · exact .inl h
  · exact .inr ⟨g, cap, cur, h1, h2, hs.same _ _ h3 (.inr rfl), h4⟩
theorem keeps_grown {A B : World} {row : Option Nat} {O : Nat → Prop} (h : A.grownBy B row) (hO : ∀ b, some b = row → O b) : Keeps O A B := ⟨h.os, h.tape, h.output, h.size, fun b _ hb hn => (h.block b (lt_heap hb) (fun e => hn (hO b e))).trans hb⟩
theorem range_getD (vs : List Value) : (List.range vs.length).map (fun j => vs.getD j undef) = vs := by
  apply List.ext_getElem
  · simp
  · intro i h1 h2
    simp [List.getD, List.getElem?_eq_getElem h2]

/-- What was gathered. -/
def Gath (w : World) (its : List Item) (k : Nat) (O : Nat → Prop) (W : World) : Prop := Below w.heap.size w W ∧ ∃ v vs, Boxed W w.heap.size 22 v ∧ W.ownsRow w.heap.size 32 1 v k vs ∧ (∀ b, O b ↔ (b = w.heap.size ∨ some b = v.ownBlock)) ∧
  ∀ j, j < k → ∃ u x, vs[j]? = some u ∧ its[j]? = some x ∧ IntsS (fun b => w.heap.size ≤ b ∧ ¬ O b ∧ b < W.heap.size) W u x.2
theorem Gath.step {w : World} {its : List Item} {k : Nat} {O : Nat → Prop} {A B : World} {base : Nat} (h : Gath w its k O A) (hs : Step base A B) (hb : w.heap.size ≤ base) : Gath w its k O B := by
  obtain ⟨h0, v, vs, h1, h2, h3, h4⟩ := h
  have := hs.size
  have := h0.size
  refine ⟨h0.trans (hs.below hb (by omega)), v, vs, hs.box h1, ownsRow_step h2 hs, h3, fun j hj => ?_⟩
  obtain ⟨u, x, e1, e2, e3⟩ := h4 j hj
  exact ⟨u, x, e1, e2, (e3.stays hs.stays).mono (fun b _ hb => ⟨hb.1, hb.2.1, by omega⟩)⟩
theorem Gath.list {w : World} {its : List Item} {O : Nat → Prop} {W : World} (h : Gath w its its.length O W) : ∃ v, Boxed W w.heap.size 22 v ∧ ListAt (fun b => w.heap.size ≤ b) W v (its.map (·.2)) ∧ Below w.heap.size w W := by
  obtain ⟨h0, v, vs, h1, h2, h3, h4⟩ := h
  have hl : vs.length = its.length := by have := h2.1; omega
  refine ⟨v, h1, ⟨fun j => vs.getD j undef, ?_, fun j hj => ?_⟩, h0⟩
  · rw [List.length_map]
    refine Row.of_own (e := 32) ?_
    rw [← hl, range_getD, hl]
    exact h2
  · rw [List.length_map] at hj
    obtain ⟨u, x, e1, e2, e3⟩ := h4 j hj
    have e4 : vs.getD j undef = u := by simp [List.getD, e1]
    have e5 : (its.map (·.2)).getD j [] = x.2 := by simp [List.getD, e2]
    show IntsS _ W (vs.getD j undef) _
    rw [e4, e5]
    exact e3.mono (fun b _ hb => hb.1)

end Go.Proofs.YthcljhfankooaabGreat

namespace Go.Proofs.YthcljhfankooaabGreat
open Go.RowKit Go.Shelf

def sameLB (xs ys : List (List Int)) : Bool := decide (xs = ys)
def SLRel (w : World) (xs ys : List (List Int)) (i : Value) (wr : World) : Prop := ∃ k : Nat, k ≤ xs.length ∧ i = .int .i64 k ∧ xs.take k = ys.take k ∧ Below w.heap.size w wr
theorem sameL_next {l m : List (List Int)} {k : Nat} (h1 : k < l.length) (h2 : k < m.length) (h : l.take k = m.take k) (e : l[k] = m[k]) : l.take (k + 1) = m.take (k + 1) := by
  rw [List.take_succ_eq_append_getElem h1, List.take_succ_eq_append_getElem h2, h, e]

end Go.Proofs.YthcljhfankooaabGreat

namespace Go.Proofs.YthcljhfankooaabGreat
open Go.RowKit Go.Shelf

/-- A tuple in its place. -/
def insX (o x : List Int) (xs : List (List Int)) : List (List Int) := xs.takeWhile (fun y => decide (cmpA o y x < 0)) ++ x :: xs.dropWhile (fun y => decide (cmpA o y x < 0))
/-- Is it new, and is there room; what is told; what is there then. -/
def insBL (o x : List Int) (xs : List (List Int)) : Bool := fitB o x && (!xs.contains x && decide (xs.length < 1024))
def insEL (o x : List Int) (xs : List (List Int)) : Int := if fitB o x = true then (if xs.contains x = true then 0 else if xs.length < 1024 then 0 else 18) else 14
def insTo (o x : List Int) (xs : List (List Int)) : List (List Int) := if insBL o x xs = true then insX o x xs else xs
theorem hasI_map (x : List Int) (l : List Item) : hasI x l = (l.map (·.2)).contains x := by
  rw [Bool.eq_iff_iff, hasI_iff, List.contains_iff_mem, List.mem_map]
theorem insB_map (o x : List Int) (l : List Item) : insB o x l = insBL o x (l.map (·.2)) := by rw [insB, insBL, hasI_map, List.length_map]
theorem insE_map (o x : List Int) (l : List Item) : insE o x l = insEL o x (l.map (·.2)) := by rw [insE, insEL, hasI_map, List.length_map]
theorem tw_app {α : Type} {p : α → Bool} : ∀ (a b : List α), (∀ y ∈ a, p y = true) → (∀ y ∈ b, p y = false) → (a ++ b).takeWhile p = a ∧ (a ++ b).dropWhile p = b
  | [], [], _, _ => ⟨rfl, rfl⟩
  | [], y :: r, _, hb => by
    have := hb y (by simp)
    simp [this]
  | y :: r, b, ha, hb => by
    have h1 := ha y (by simp)
    obtain ⟨e1, e2⟩ := tw_app r b (fun z hz => ha z (by simp [hz])) hb
    simp [h1, e1, e2]
theorem PutIn.map {o x : List Int} {v : Value} {l l' : List Item} (h : PutIn o (v, x) l l') : l'.map (·.2) = insX o x (l.map (·.2)) := by
  obtain ⟨p, q, rfl, rfl, h1, h2⟩ := h
  have := tw_app (p := fun y => decide (cmpA o y x < 0)) (p.map (·.2)) (q.map (·.2)) (fun y hy => by
    obtain ⟨z, hz, rfl⟩ := List.mem_map.1 hy
    exact decide_eq_true (h1 z hz)) (fun y hy => by
    obtain ⟨z, hz, rfl⟩ := List.mem_map.1 hy
    exact decide_eq_false (by have := h2 z hz; simp only at this; omega))
  simp only [insX, List.map_append, List.map_cons]
  rw [this.1, this.2]
theorem Took.map {o x : List Int} {l l' : List Item} (h : Took o x l l') : l'.map (·.2) = insTo o x (l.map (·.2)) := by
  rw [insTo, ← insB_map]
  rcases h with ⟨h, v, hp⟩ | ⟨h, rfl⟩
  · rw [if_pos h, hp.map]
  · rw [if_neg (by simp [h])]
theorem Took.bnd {o x : List Int} {l l' : List Item} (h : Took o x l l') (hB : BndI l) (hx : Bnd x) : BndI l' := by
  rcases h with ⟨_, v, p, q, rfl, rfl, _, _⟩ | ⟨_, rfl⟩
  · intro y hy
    rcases List.mem_append.1 hy with h | h
    · exact hB y (by simp [h])
    · rcases List.mem_cons.1 h with e | h
      · rw [e]; exact hx
      · exact hB y (by simp [h])
  · exact hB
/-- Rising tuples. -/
def Up (o : List Int) (xs : List (List Int)) : Prop := xs.Pairwise (fun a b => cmpA o a b < 0) ∧ (∀ a ∈ xs, a.length = o.length) ∧ xs.length ≤ 1024 ∧ ∀ a ∈ xs, Bnd a

/-- A set with these tuples. -/
def SetT (S : Nat → Prop) (w : World) (sb hb : Nat) (o : List Int) (xs : List (List Int)) : Prop := ∃ l, SetAt S w sb hb o l ∧ BndI l ∧ l.map (·.2) = xs
theorem SetT.up {S : Nat → Prop} {w : World} {sb hb : Nat} {o : List Int} {xs : List (List Int)} (h : SetT S w sb hb o xs) : Up o xs := by
  obtain ⟨l, h, hB, rfl⟩ := h
  refine ⟨?_, fun a ha => ?_, by rw [List.length_map]; exact h.len, fun a ha => ?_⟩
  · rw [List.pairwise_map]; exact h.rises.1
  · obtain ⟨z, hz, rfl⟩ := List.mem_map.1 ha
    exact h.rises.2 z hz
  · obtain ⟨z, hz, rfl⟩ := List.mem_map.1 ha
    exact hB z hz
theorem SetT.ok {S : Nat → Prop} {w : World} {sb hb : Nat} {o : List Int} {xs : List (List Int)} (h : SetT S w sb hb o xs) : right o = true := by
  obtain ⟨l, h, _⟩ := h
  exact h.ok
theorem SetT.lt {S : Nat → Prop} {w : World} {sb hb : Nat} {o : List Int} {xs : List (List Int)} (h : SetT S w sb hb o xs) : hb < w.heap.size := by
  obtain ⟨l, h, _⟩ := h
  exact h.lt
theorem SetT.slt {S : Nat → Prop} {w : World} {sb hb : Nat} {o : List Int} {xs : List (List Int)} (h : SetT S w sb hb o xs) : sb < w.heap.size := by
  obtain ⟨l, h, _⟩ := h
  exact h.slt
theorem SetT.stays {S : Nat → Prop} {w w' : World} {sb hb : Nat} {o : List Int} {xs : List (List Int)} (h : SetT S w sb hb o xs) (hs : Stays S w w') (hh : w'.heap[hb]? = w.heap[hb]?) : SetT S w' sb hb o xs := by
  obtain ⟨l, h, h2⟩ := h
  exact ⟨l, h.stays hs hh, h2⟩
theorem SetT.later {S : Nat → Prop} {w w' : World} {sb hb : Nat} {o : List Int} {xs : List (List Int)} (h : SetT S w sb hb o xs) (hb' : Below w.heap.size w w') : SetT S w' sb hb o xs := by
  obtain ⟨l, h, h2⟩ := h
  exact ⟨l, h.later hb', h2⟩
theorem SetT.mono {S S' : Nat → Prop} {w : World} {sb hb : Nat} {o : List Int} {xs : List (List Int)} (h : SetT S w sb hb o xs) (hs : ∀ b, b < w.heap.size → S b → S' b) (hn : ¬ S' hb) : SetT S' w sb hb o xs := by
  obtain ⟨l, h, h2⟩ := h
  exact ⟨l, h.mono hs hn, h2⟩
/-- .. while another set turns. -/
theorem SetT.keeps {S : Nat → Prop} {w w' : World} {sb hb h2 : Nat} {o : List Int} {xs : List (List Int)} (h : SetT S w sb hb o xs) (hk : Keeps (fun b => b = h2) w w') (hne : hb ≠ h2) (hn : ¬ S h2) : SetT S w' sb hb o xs :=
  h.stays (hk.stays (fun b _ hs e => hn (e ▸ hs))) (by
    have hl := h.lt
    rw [hk.same hb _ (Array.getElem?_eq_getElem hl) hne]
    exact (Array.getElem?_eq_getElem hl).symm)

theorem insert_T (S : Nat → Prop) (w : World) (sb hb : Nat) (o x : List Int) (xs : List (List Int)) (xv : Value) (h : SetT S w sb hb o xs) (hx : Ints w.heap.size w xv x) (hB : Bnd x) (hnew : NewIn S w) :
    Calls Tryz.prog 48 #[.pointer (some ⟨sb, 0, none⟩), xv] w fun e w' => e = .returned (.tuple #[.bool (insBL o x xs), .int .i64 (insEL o x xs)]) ∧ SetT S w' sb hb o (insTo o x xs) ∧ Keeps (fun b => b = hb) w w' := by
  obtain ⟨l, h, hl, rfl⟩ := h
  refine (insert_set S w sb hb o x l xv h hx hnew).mono ?_
  rintro e w' ⟨rfl, ⟨l', h1, h2⟩, h3⟩
  exact ⟨by rw [insB_map, insE_map], ⟨l', h1, h2.bnd hl hB, h2.map⟩, h3⟩

theorem has_T (S : Nat → Prop) (w : World) (sb hb : Nat) (o x : List Int) (xs : List (List Int)) (xv : Value) (h : SetT S w sb hb o xs) (hx : Ints w.heap.size w xv x) :
    Calls Tryz.prog 70 #[.pointer (some ⟨sb, 0, none⟩), xv] w fun e w' => e = .returned (.bool (fitB o x && xs.contains x)) ∧ Below w.heap.size w w' := by
  obtain ⟨l, h, hl, rfl⟩ := h
  refine (has_set S w sb hb o x l xv h hx).mono ?_
  rintro e w' ⟨rfl, h3⟩
  exact ⟨by rw [hasA, hasI_map], h3⟩



theorem new_T (w : World) (ov : Value) (o : List Int) (ho : Ints w.heap.size w ov o) (hr : right o = true) :
    Calls Tryz.prog 22 #[ov] w fun e w' => ∃ sb, e = .returned (.tuple #[.pointer (some ⟨sb, 0, none⟩), .int .i64 0]) ∧ (∃ hb, SetT (fun b => b ≠ hb) w' sb hb o [] ∧ w.heap.size ≤ hb) ∧ Below w.heap.size w w' :=
  (new_set w ov o ho hr).mono fun e w' ⟨sb, h1, ⟨hb, h2, h3⟩, h4⟩ => ⟨sb, h1, ⟨hb, ⟨[], h2, fun _ h => (by cases h), rfl⟩, h3⟩, h4⟩



end Go.Proofs.YthcljhfankooaabGreat

namespace Go.Proofs.YthcljhfankooaabGreat
open Go.RowKit Go.Shelf





theorem eg_range : ∀ args w, (callFunc 95 args).run Tryz.prog w = .ok (.enter 95 args) w := enters_of Tryz.func95 (by kernel_rfl) rfl

set_option maxRecDepth 100000 in
set_option maxHeartbeats 4000000 in
theorem range_T (S : Nat → Prop) (w : World) (sb hb : Nat) (o x : List Int) (k : Int) (xs : List (List Int)) (xv : Value) (h : SetT S w sb hb o xs) (hx : Ints w.heap.size w xv x) (hn : x.length * 8 ≤ 140737488355328) (hnew : NewIn S w) :
    Calls Tryz.prog 76 #[.pointer (some ⟨sb, 0, none⟩), .int .i64 k, xv] w fun e w' => ∃ lb its, e = .returned (.func (.func 95) #[] lb) ∧ GoesH 95 lb its (fun b => S b ∧ b < w'.heap.size) w' ∧ its.map (·.2) = xs.filter (fun y => headA o k y x) ∧ its.length ≤ 1024 ∧ Below w.heap.size w w' := by
  obtain ⟨l, h, hB, rfl⟩ := h
  obtain ⟨W, hW⟩ : ∃ W, W = (w.alloc (.cells #[.pointer (some ⟨sb, 0, none⟩)] 64)).alloc (.cells #[.int .i64 k] 3) := ⟨_, rfl⟩
  have hb2 : Below w.heap.size w W := by rw [hW]; exact ((Below.refl _ w).alloc (Nat.le_refl _) _).alloc (by simp) _
  have hsz : W.heap.size = w.heap.size + 2 := by rw [hW]; simp
  have k1 : Boxed W w.heap.size 64 (.pointer (some ⟨sb, 0, none⟩)) := by rw [hW]; exact (Boxed.new w _ _).alloc _
  have k2 : Boxed W (w.heap.size + 1) 3 (.int .i64 k) := by
    rw [hW]
    have := Boxed.new (w.alloc (.cells #[.pointer (some ⟨sb, 0, none⟩)] 64)) 3 (.int .i64 k)
    rw [World.size_alloc] at this
    exact this
  have hcl := cloneL_any (fun b => b < w.heap.size) W xv x (IntsS.of_ints (hx.below hb2 (Nat.le_refl _)) (fun _ h => h)) hn
  obtain ⟨xa, xc, rfl, _⟩ := id hx
  have HH := hide (And.intro h (And.intro hB (And.intro hnew (And.intro hb2 (And.intro hsz (And.intro k1 k2))))))
  clear h hB hnew hb2 hsz k1 k2 hx
  go_enter Tryz.func76, Tryz.ntmps76
  go_wp2_with fail
  rw [← hW]
  refine hcl.mono ?_
  clear hcl
  rintro e w3 ⟨r, rfl, hown, hb3⟩
  obtain ⟨ra, rc, rfl, _⟩ := id hown.intsS
  have HO := hide (And.intro hown hb3)
  clear hown hb3 hW
  go_wp2_with fail
  go_ret
  obtain ⟨h, hB, hnew, hb2, hsz, k1, k2⟩ := unhide HH
  obtain ⟨hown, hb3⟩ := unhide HO
  obtain ⟨w4, hw4⟩ : ∃ w4, w4 = w3.alloc (.cells #[.slice ra x.length rc] 32) := ⟨_, rfl⟩
  rw [← hw4]
  have hb4 : Below w3.heap.size w3 w4 := by rw [hw4]; exact (Below.refl _ w3).alloc (Nat.le_refl _) _
  have k3 : Boxed w4 w3.heap.size 32 (.slice ra x.length rc) := by rw [hw4]; exact Boxed.new w3 _ _
  have hs3 := hb3.size
  have hs4 := hb4.size
  have b24 : Below W.heap.size W w4 := hb3.trans (hb4.mono hs3)
  have b04 : Below w.heap.size w w4 := hb2.trans (b24.mono hb2.size)
  have k1' : Boxed w4 w.heap.size 64 (.pointer (some ⟨sb, 0, none⟩)) := (b24.block _ k1.lt).trans k1
  have k2' : Boxed w4 (w.heap.size + 1) 3 (.int .i64 k) := (b24.block _ k2.lt).trans k2
  have h4 := h.later b04
  refine ⟨_, likeI o k x l, rfl, fun W5 hs5 => ?_, ?_, ?_, b04⟩
  · have h2 : SetAt (fun b => S b ∧ b < w4.heap.size) w4 sb hb o l := h4.mono (fun b hb hs => ⟨hs, hb⟩) (fun e => h.ns e.1)
    obtain ⟨ov, p, d, hh, _⟩ := h4.held
    have h3 : SetAt (fun b => S b ∧ b < w4.heap.size) W5 sb hb o l := h2.stays hs5.stays ((hs5.same _ _ hh (.inr rfl)).trans hh.symm)
    have hx4 : IntsS (fun b => S b ∧ b < w4.heap.size) W5 (.slice ra x.length rc) x := ((hown.intsS.later hb4).mono (S' := fun b => S b ∧ b < w4.heap.size) (fun b h1 h2 => ⟨hnew b (by omega), h1⟩)).stays hs5.stays
    exact (range1_goes _ W5 sb hb _ _ _ o x k l _ h3 (hs5.box k1') (hs5.box k2') (hs5.box k3) hx4).mono fun b hb => hb.1
  · rw [like_filter h.ok h.rises hB, List.filter_map]
    rfl
  · rw [like_filter h.ok h.rises hB]
    exact Nat.le_trans (List.length_filter_le _ _) h.len
end Go.Proofs.YthcljhfankooaabGreat

namespace Go.Proofs.YthcljhfankooaabGreat
open Go.RowKit Go.Shelf

set_option maxRecDepth 100000 in
set_option maxHeartbeats 4000000 in
theorem new_no (w : World) (ov : Value) (o : List Int) (ho : Ints w.heap.size w ov o) (hr : right o = false) :
    Calls Tryz.prog 22 #[ov] w fun e w' => e = .returned (.tuple #[.pointer none, .int .i64 1]) ∧ Below w.heap.size w w' := by
  have hc := right_any w.heap.size w ov o ho
  rw [hr] at hc
  obtain ⟨oa, oc, rfl, _⟩ := id ho
  clear ho hr
  go_enter Tryz.func22, Tryz.ntmps22
  go_wp2_with (go_at_call 44; refine hc.mono ?_; clear hc; rintro e w' ⟨rfl, rfl⟩)
  go_ret2
  exact ⟨rfl, Below.refl _ _⟩

set_option maxRecDepth 100000 in



set_option maxRecDepth 100000 in
set_option maxHeartbeats 4000000 in
theorem new_set2 (w : World) (ov : Value) (o : List Int) (ho : Ints w.heap.size w ov o) (hr : right o = true) :
    Calls Tryz.prog 22 #[ov] w fun e w' => ∃ sb, e = .returned (.tuple #[.pointer (some ⟨sb, 0, none⟩), .int .i64 0]) ∧ (∃ hb, SetAt (fun b => w.heap.size ≤ b ∧ b ≠ hb) w' sb hb o [] ∧ w.heap.size ≤ hb) ∧ Below w.heap.size w w' := by
  have hc := right_any w.heap.size w ov o ho
  have hcl := cloneL_any (fun b => b < w.heap.size) w ov o (IntsS.of_ints ho (fun _ h => h)) (by have := (right_in hr).1; omega)
  rw [hr] at hc
  obtain ⟨oa, oc, rfl, _⟩ := id ho
  have HR := hide hr
  clear ho hr
  go_enter Tryz.func22, Tryz.ntmps22
  go_wp2_with (first
    | (go_at_call 44; refine hc.mono ?_; clear hc; rintro e w' ⟨rfl, rfl⟩)
    | (go_at_call 36; refine hcl.mono ?_; clear hcl; rintro e w1 ⟨r, rfl, hown, hb⟩; have hr3 : ∃ a c, r = .slice a o.length c := (by obtain ⟨a, c, e, _⟩ := hown.intsS; exact ⟨a, c, e⟩); obtain ⟨ra, rc, rfl⟩ := hr3; have HO := hide (And.intro hown hb); clear hown hb))
  go_ret2
  obtain ⟨hown, hb⟩ := unhide HO
  obtain ⟨W, hW⟩ : ∃ W, W = (w1.alloc (.cells #[.slice ra o.length rc, .pointer none, .int .i64 0] 102)).alloc (.cells #[.pointer (some ⟨w1.heap.size, 0, none⟩)] 104) := ⟨_, rfl⟩
  rw [← hW]
  have hs := hb.size
  have hB1 : Below w1.heap.size w1 W := by rw [hW]; exact ((Below.refl _ w1).alloc (Nat.le_refl _) _).alloc (by simp) _
  have hB : Below _ _ W := hb.trans (hB1.mono hs)
  have g0 : W.heap[w1.heap.size]? = some (.cells #[.slice ra o.length rc, .pointer none, .int .i64 0] 102 (0, 0)) := by
    rw [hW, Below.heap_alloc _ _ _ (by simp)]; exact World.alloc_heap_new _ _
  have g1 : W.heap[w1.heap.size + 1]? = some (.cells #[.pointer (some ⟨w1.heap.size, 0, none⟩)] 104 (0, 0)) := by
    rw [hW]
    have := World.alloc_heap_new (w1.alloc (.cells #[.slice ra o.length rc, .pointer none, .int .i64 0] 102)) (.cells #[.pointer (some ⟨w1.heap.size, 0, none⟩)] 104)
    rw [World.size_alloc] at this
    exact this
  refine ⟨_, rfl, ⟨w1.heap.size, ⟨one_cells g1, ⟨by omega, by omega⟩, ⟨_, none, 0, g0, ?_, rfl, rfl⟩, fun h => h.2 rfl, unhide HR, Rises.nil o, by simp⟩, hs⟩, hB⟩
  refine IntsS.stays ?_ (Stays.of_below hB1)
  exact hown.intsS.mono (fun b hb h => ⟨by omega, by omega⟩)
end Go.Proofs.YthcljhfankooaabGreat
