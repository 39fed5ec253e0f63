/- Sets told by their tuples. -/
import Derived.Test.YtmjlhmhkbfnccaaAllG
import Derived.Test.YtmjlhmhkbfnccaaSames
namespace Go.Proofs.Ytmjlhmhkbfnccaa
open Go.RowKit Go.Shelf

/-- A tuple in its place. -/
def insX (o x : List Int) (xs : List (List Int)) : List (List Int) := xs.takeWhile (fun y => decide (cmpA o y x < 0)) ++ x :: xs.dropWhile (fun y => decide (cmpA o y x < 0))
/-- Is it new, and is there room; what is told; what is there then. -/
def insBL (o x : List Int) (xs : List (List Int)) : Bool := fitB o x && (!xs.contains x && decide (xs.length < 1024))
def insEL (o x : List Int) (xs : List (List Int)) : Int := if fitB o x = true then (if xs.contains x = true then 0 else if xs.length < 1024 then 0 else 18) else 14
def insTo (o x : List Int) (xs : List (List Int)) : List (List Int) := if insBL o x xs = true then insX o x xs else xs
theorem hasI_map (x : List Int) (l : List Item) : hasI x l = (l.map (·.2)).contains x := by
  rw [Bool.eq_iff_iff, hasI_iff, List.contains_iff_mem, List.mem_map]
theorem insB_map (o x : List Int) (l : List Item) : insB o x l = insBL o x (l.map (·.2)) := by rw [insB, insBL, hasI_map, List.length_map]
theorem insE_map (o x : List Int) (l : List Item) : insE o x l = insEL o x (l.map (·.2)) := by rw [insE, insEL, hasI_map, List.length_map]
theorem tw_app {α : Type} {p : α → Bool} : ∀ (a b : List α), (∀ y ∈ a, p y = true) → (∀ y ∈ b, p y = false) → (a ++ b).takeWhile p = a ∧ (a ++ b).dropWhile p = b
  | [], [], _, _ => ⟨rfl, rfl⟩
  | [], y :: r, _, hb => by
    have := hb y (by simp)
    simp [this]
  | y :: r, b, ha, hb => by
    have h1 := ha y (by simp)
    obtain ⟨e1, e2⟩ := tw_app r b (fun z hz => ha z (by simp [hz])) hb
    simp [h1, e1, e2]
theorem PutIn.map {o x : List Int} {v : Value} {l l' : List Item} (h : PutIn o (v, x) l l') : l'.map (·.2) = insX o x (l.map (·.2)) := by
  obtain ⟨p, q, rfl, rfl, h1, h2⟩ := h
  have := tw_app (p := fun y => decide (cmpA o y x < 0)) (p.map (·.2)) (q.map (·.2)) (fun y hy => by
    obtain ⟨z, hz, rfl⟩ := List.mem_map.1 hy
    exact decide_eq_true (h1 z hz)) (fun y hy => by
    obtain ⟨z, hz, rfl⟩ := List.mem_map.1 hy
    exact decide_eq_false (by have := h2 z hz; simp only at this; omega))
  simp only [insX, List.map_append, List.map_cons]
  rw [this.1, this.2]
theorem Took.map {o x : List Int} {l l' : List Item} (h : Took o x l l') : l'.map (·.2) = insTo o x (l.map (·.2)) := by
  rw [insTo, ← insB_map]
  rcases h with ⟨h, v, hp⟩ | ⟨h, rfl⟩
  · rw [if_pos h, hp.map]
  · rw [if_neg (by simp [h])]
theorem Took.bnd {o x : List Int} {l l' : List Item} (h : Took o x l l') (hB : BndI l) (hx : Bnd x) : BndI l' := by
  rcases h with ⟨_, v, p, q, rfl, rfl, _, _⟩ | ⟨_, rfl⟩
  · intro y hy
    rcases List.mem_append.1 hy with h | h
    · exact hB y (by simp [h])
    · rcases List.mem_cons.1 h with e | h
      · rw [e]; exact hx
      · exact hB y (by simp [h])
  · exact hB
/-- Rising tuples. -/
def Up (o : List Int) (xs : List (List Int)) : Prop := xs.Pairwise (fun a b => cmpA o a b < 0) ∧ (∀ a ∈ xs, a.length = o.length) ∧ xs.length ≤ 1024 ∧ ∀ a ∈ xs, Bnd a

/-- A set with these tuples. -/
def SetT (S : Nat → Prop) (w : World) (sb hb : Nat) (o : List Int) (xs : List (List Int)) : Prop := ∃ l, SetAt S w sb hb o l ∧ BndI l ∧ l.map (·.2) = xs
theorem SetT.up {S : Nat → Prop} {w : World} {sb hb : Nat} {o : List Int} {xs : List (List Int)} (h : SetT S w sb hb o xs) : Up o xs := by
  obtain ⟨l, h, hB, rfl⟩ := h
  refine ⟨?_, fun a ha => ?_, by rw [List.length_map]; exact h.len, fun a ha => ?_⟩
  · rw [List.pairwise_map]; exact h.rises.1
  · obtain ⟨z, hz, rfl⟩ := List.mem_map.1 ha
    exact h.rises.2 z hz
  · obtain ⟨z, hz, rfl⟩ := List.mem_map.1 ha
    exact hB z hz
theorem SetT.ok {S : Nat → Prop} {w : World} {sb hb : Nat} {o : List Int} {xs : List (List Int)} (h : SetT S w sb hb o xs) : right o = true := by
  obtain ⟨l, h, _⟩ := h
  exact h.ok
theorem SetT.lt {S : Nat → Prop} {w : World} {sb hb : Nat} {o : List Int} {xs : List (List Int)} (h : SetT S w sb hb o xs) : hb < w.heap.size := by
  obtain ⟨l, h, _⟩ := h
  exact h.lt
theorem SetT.slt {S : Nat → Prop} {w : World} {sb hb : Nat} {o : List Int} {xs : List (List Int)} (h : SetT S w sb hb o xs) : sb < w.heap.size := by
  obtain ⟨l, h, _⟩ := h
  exact h.slt
theorem SetT.stays {S : Nat → Prop} {w w' : World} {sb hb : Nat} {o : List Int} {xs : List (List Int)} (h : SetT S w sb hb o xs) (hs : Stays S w w') (hh : w'.heap[hb]? = w.heap[hb]?) : SetT S w' sb hb o xs := by
  obtain ⟨l, h, h2⟩ := h
  exact ⟨l, h.stays hs hh, h2⟩
theorem SetT.later {S : Nat → Prop} {w w' : World} {sb hb : Nat} {o : List Int} {xs : List (List Int)} (h : SetT S w sb hb o xs) (hb' : Below w.heap.size w w') : SetT S w' sb hb o xs := by
  obtain ⟨l, h, h2⟩ := h
  exact ⟨l, h.later hb', h2⟩
theorem SetT.mono {S S' : Nat → Prop} {w : World} {sb hb : Nat} {o : List Int} {xs : List (List Int)} (h : SetT S w sb hb o xs) (hs : ∀ b, b < w.heap.size → S b → S' b) (hn : ¬ S' hb) : SetT S' w sb hb o xs := by
  obtain ⟨l, h, h2⟩ := h
  exact ⟨l, h.mono hs hn, h2⟩
/-- .. while another set turns. -/
theorem SetT.keeps {S : Nat → Prop} {w w' : World} {sb hb h2 : Nat} {o : List Int} {xs : List (List Int)} (h : SetT S w sb hb o xs) (hk : Keeps (fun b => b = h2) w w') (hne : hb ≠ h2) (hn : ¬ S h2) : SetT S w' sb hb o xs :=
  h.stays (hk.stays (fun b _ hs e => hn (e ▸ hs))) (by
    have hl := h.lt
    rw [hk.same hb _ (Array.getElem?_eq_getElem hl) hne]
    exact (Array.getElem?_eq_getElem hl).symm)

theorem insert_T (S : Nat → Prop) (w : World) (sb hb : Nat) (o x : List Int) (xs : List (List Int)) (xv : Value) (h : SetT S w sb hb o xs) (hx : Ints w.heap.size w xv x) (hB : Bnd x) (hnew : NewIn S w) :
    Calls Try.prog 14 #[.pointer (some ⟨sb, 0, none⟩), xv] w fun e w' => e = .returned (.tuple #[.bool (insBL o x xs), .int .i64 (insEL o x xs)]) ∧ SetT S w' sb hb o (insTo o x xs) ∧ Keeps (fun b => b = hb) w w' := by
  obtain ⟨l, h, hl, rfl⟩ := h
  refine (insert_set S w sb hb o x l xv h hx hnew).mono ?_
  rintro e w' ⟨rfl, ⟨l', h1, h2⟩, h3⟩
  exact ⟨by rw [insB_map, insE_map], ⟨l', h1, h2.bnd hl hB, h2.map⟩, h3⟩
theorem has_T (S : Nat → Prop) (w : World) (sb hb : Nat) (o x : List Int) (xs : List (List Int)) (xv : Value) (h : SetT S w sb hb o xs) (hx : Ints w.heap.size w xv x) :
    Calls Try.prog 19 #[.pointer (some ⟨sb, 0, none⟩), xv] w fun e w' => e = .returned (.bool (fitB o x && xs.contains x)) ∧ Below w.heap.size w w' := by
  obtain ⟨l, h, hl, rfl⟩ := h
  refine (has_set S w sb hb o x l xv h hx).mono ?_
  rintro e w' ⟨rfl, h3⟩
  exact ⟨by rw [hasA, hasI_map], h3⟩
theorem len_T (S : Nat → Prop) (w : World) (sb hb : Nat) (o : List Int) (xs : List (List Int)) (h : SetT S w sb hb o xs) :
    Calls Try.prog 15 #[.pointer (some ⟨sb, 0, none⟩)] w fun e w' => e = .returned (.int .i64 (xs.length : Int)) ∧ Below w.heap.size w w' := by
  obtain ⟨l, h, hl, rfl⟩ := h
  rw [List.length_map]
  exact len_set S w sb hb o l h
theorem new_T (w : World) (ov : Value) (o : List Int) (ho : Ints w.heap.size w ov o) (hr : right o = true) :
    Calls Try.prog 13 #[ov] w fun e w' => ∃ sb, e = .returned (.tuple #[.pointer (some ⟨sb, 0, none⟩), .int .i64 0]) ∧ (∃ hb, SetT (fun b => b ≠ hb) w' sb hb o [] ∧ w.heap.size ≤ hb) ∧ Below w.heap.size w w' :=
  (new_set w ov o ho hr).mono fun e w' ⟨sb, h1, ⟨hb, h2, h3⟩, h4⟩ => ⟨sb, h1, ⟨hb, ⟨[], h2, fun _ h => (by cases h), rfl⟩, h3⟩, h4⟩

/-- Going over a set, whenever that begins. -/
theorem all_goes {S : Nat → Prop} {w : World} {sb hb bs : Nat} {o : List Int} {l : List Item} (h : SetAt S w sb hb o l) (hB : BndI l) (hbs : Boxed w bs 33 (.pointer (some ⟨sb, 0, none⟩))) :
    GoesH 41 #[.pointer (some ⟨bs, 0, none⟩)] l (fun b => S b ∧ b < w.heap.size) w := fun W hs => by
  have h2 : SetAt (fun b => S b ∧ b < w.heap.size) w sb hb o l := h.mono (fun b hb hs => ⟨hs, hb⟩) (fun e => h.ns e.1)
  obtain ⟨ov, p, d, hh, _⟩ := h.held
  have h3 : SetAt (fun b => S b ∧ b < w.heap.size) W sb hb o l := h2.stays hs.stays ((hs.same _ _ hh (.inr rfl)).trans hh.symm)
  have hsz := hs.size
  exact (all1_goes _ W sb hb bs o l h3 hB (hs.box hbs)).mono fun b hb => hb.1
theorem list_T (S : Nat → Prop) (w : World) (sb hb : Nat) (o : List Int) (xs : List (List Int)) (h : SetT S w sb hb o xs) (w0 : World) (bs : Nat) (hw : w = w0.alloc (.cells #[.pointer (some ⟨sb, 0, none⟩)] 33)) (hbs : bs = w0.heap.size) :
    Calls Try.prog 17 #[.func (.func 41) #[] #[.pointer (some ⟨bs, 0, none⟩)]] w fun e w' => ∃ rv, e = .returned rv ∧ ListAt (fun b => w.heap.size ≤ b) w' rv xs ∧ Below w.heap.size w w' := by
  obtain ⟨l, h, hB, rfl⟩ := h
  exact list_any w 41 _ l _ (all_goes h hB (by rw [hw, hbs]; exact Boxed.new w0 _ _)) (enters_of Try.func41 (by kernel_rfl) rfl) (fun b hb => hb.2) h.len
end Go.Proofs.Ytmjlhmhkbfnccaa
