/- The plain reading of two texts, one behind the other. Walks of the looks at one byte, and of the names' ends. -/
import Derived.Test.YtdjehbdpcdikkaaGreatDoorMt03
import Derived.Test.YtdjehbdpcdikkaaGreatDoorChecked
import Derived.Test.YtdjehbdpcdikkaaGreatDoorMt01
import Derived.WalkKit
import Derived.WalkMore
import Derived.ScopeJumps
import Derived.Handy
namespace Go.Proofs.YtdjehbdpcdikkaaGreatDoor

section
variable {α β : Type} {e e' : Nat} {r : List Tok} {n : Nat}
def Many (R : Rs α) : Prop := ∃ a l, R = .bad 3 a l
/-- What is read stays read where more stands behind it, and more items stand ahead; or there are too many items. -/
def XtR (r : List Tok) (n : Nat) (R R' : Rs α) : Prop := ∀ x l2 i2, R = .ok x l2 i2 → R' = .ok x (l2 ++ r) (i2 + n) ∨ Many R'
def Xt (r : List Tok) (n : Nat) (P P' : Pr α) : Prop := ∀ l i, XtR r n (P l i) (P' (l ++ r) (i + n))
/-- What may stand behind: nothing, or what begins an item and is no flag. -/
def Fine (r : List Tok) : Prop := r = [] ∨ ∃ t q, r = t :: q ∧ ((t.kind = 4 ∧ t.text ∈ hds) ∨ (t.kind = 1 ∧ t.text ≠ wIn ∧ t.text ≠ wOut))
theorem Fine.sgn (hF : Fine r) {s : Txt} (h0 : s ≠ []) (hs : s ∉ hds) : Go.Proofs.YtdjehbdpcdikkaaGreatDoor.sgn e' r ≠ s := by
 rcases hF with rfl | ⟨t, q, rfl, ⟨hk, ht⟩ | ⟨hk, _⟩⟩
 · exact fun h => h0 h.symm
 ·
  intro h
  have e1 : Go.Proofs.YtdjehbdpcdikkaaGreatDoor.sgn e' (t :: q) = t.text := by show (if t.kind = 4 then t.text else []) = t.text; rw [if_pos hk]
  rw [e1] at h
  subst h
  exact hs ht
 ·
  intro h
  have e1 : Go.Proofs.YtdjehbdpcdikkaaGreatDoor.sgn e' (t :: q) = [] := by show (if t.kind = 4 then t.text else []) = []; rw [if_neg (by omega)]
  rw [e1] at h
  exact h0 h.symm
theorem sgn_app (hF : Fine r) {s : Txt} (h0 : s ≠ []) (hs : s ∉ hds) (l : List Tok) : sgn e l = s ↔ sgn e' (l ++ r) = s := by
 cases l with
 | nil => exact ⟨fun h => absurd h (fun h => h0 (show s = [] from h.symm)), fun h => absurd h (hF.sgn h0 hs)⟩
 | cons t l => exact Iff.rfl
theorem sgn_app' {s : Txt} {l : List Tok} (hl : l ≠ []) : sgn e l = s ↔ sgn e' (l ++ r) = s := by
 cases l with
 | nil => exact absurd rfl hl
 | cons t l => exact Iff.rfl
theorem sgn_apps (hF : Fine r) {ss : List Txt} (hs : ∀ s ∈ ss, s ≠ [] ∧ s ∉ hds) (l : List Tok) : sgn e l ∈ ss ↔ sgn e' (l ++ r) ∈ ss := by
 constructor
 ·
  intro h
  have := (sgn_app (e := e) (e' := e') hF (hs _ h).1 (hs _ h).2 l).1 rfl
  rw [this]; exact h
 ·
  intro h
  have := (sgn_app (e := e) (e' := e') hF (hs _ h).1 (hs _ h).2 l).2 rfl
  rw [this]; exact h
theorem ahd_app {l : List Tok} (hl : l ≠ []) : ahd e' 0 (l ++ r) = ahd e 0 l := by
 cases l with
 | nil => exact absurd rfl hl
 | cons t l => rfl
theorem drop_app {l : List Tok} (hl : l ≠ []) : (l ++ r).drop 1 = l.drop 1 ++ r := by
 cases l with
 | nil => exact absurd rfl hl
 | cons t l => rfl
theorem kind_app (hF : Fine r) (l : List Tok) : (ahd e 0 l).kind = 2 ↔ (ahd e' 0 (l ++ r)).kind = 2 := by
 cases l with
 | nil =>
  rcases hF with rfl | ⟨t, q, rfl, ⟨hk, _⟩ | ⟨hk, _⟩⟩
  · exact Iff.rfl
  · exact ⟨fun h => absurd (show (0 : Int) = 2 from h) (by decide), fun h => absurd (show t.kind = 2 from h) (by omega)⟩
  · exact ⟨fun h => absurd (show (0 : Int) = 2 from h) (by decide), fun h => absurd (show t.kind = 2 from h) (by omega)⟩
 | cons t l => exact Iff.rfl
theorem callN_app (hF : Fine r) {l : List Tok} (hl : l ≠ []) : callN e l = callN e' (l ++ r) := by
 cases l with
 | nil => exact absurd rfl hl
 | cons t l =>
  cases l with
  | nil =>
   have h1 : callN e [t] = false := by show (decide (t.kind = 1) && decide ((0 : Int) = 4) && decide (([] : Txt) = [40])) = false; simp
   rw [h1]
   rcases hF with rfl | ⟨u, q, rfl, ⟨hk, hh⟩ | ⟨hk, _⟩⟩
   · show false = (decide (t.kind = 1) && decide ((0 : Int) = 4) && decide (([] : Txt) = [40])); simp
   ·
    show false = (decide (t.kind = 1) && decide (u.kind = 4) && decide (u.text = [40]))
    have : u.text ≠ [40] := fun e => by rw [e] at hh; exact absurd hh (by decide)
    simp [this]
   ·
    show false = (decide (t.kind = 1) && decide (u.kind = 4) && decide (u.text = [40]))
    have : u.kind ≠ 4 := by omega
    simp [this]
  | cons u l => rfl

theorem XtR.bind {R R' : Rs α} {f f' : α → Pr β} (h : XtR r n R R') (hf : ∀ x l i, R = .ok x l i → XtR r n (f x l i) (f' x (l ++ r) (i + n))) : XtR r n (R.bind f) (R'.bind f') := fun x l2 i2 hb => by
 obtain ⟨a, l1, i1, h1, h2⟩ := bind_ok hb
 rcases h a l1 i1 h1 with g | ⟨_, _, g⟩
 · rw [g]; exact hf a l1 i1 h1 x l2 i2 h2
 · rw [g]; exact .inr ⟨_, _, rfl⟩
theorem XtR.map {R R' : Rs α} {g g' : α → β} (h : XtR r n R R') (hg : ∀ x l i, R = .ok x l i → g x = g' x) : XtR r n (R.map g) (R'.map g') := fun x l2 i2 hb => by
 obtain ⟨a, h1, rfl⟩ := map_ok hb
 rcases h a l2 i2 h1 with k | ⟨_, _, k⟩
 · rw [k]; exact .inl (by rw [hg a l2 i2 h1]; rfl)
 · rw [k]; exact .inr ⟨_, _, rfl⟩
theorem XtR.ite {p p' : Prop} [Decidable p] [Decidable p'] {A A' B B' : Rs α} (hp : p ↔ p') (hA : p → XtR r n A A') (hB : ¬ p → XtR r n B B') : XtR r n (if p then A else B) (if p' then A' else B') := by
 by_cases h : p
 · rw [if_pos h, if_pos (hp.1 h)]; exact hA h
 · rw [if_neg h, if_neg (fun h' => h (hp.2 h'))]; exact hB h
theorem XtR.ok {x : α} {l : List Tok} {i : Nat} : XtR r n (.ok x l i) (.ok x (l ++ r) (i + n)) := fun y l2 i2 h => by cases h; exact .inl rfl
theorem XtR.bad {w a : Int} {l : List Tok} {R' : Rs α} : XtR r n (.bad w a l) R' := fun y l2 i2 h => by cases h
theorem XtR.refuse {why : Int} {l : List Tok} {i : Nat} {R' : Rs α} : XtR r n (refuse e why l i) R' := XtR.bad
theorem xt_leaf (p : Tok → Prop) [∀ t, Decidable (p t)] (g : Tok → α) (why : Int) (hp : ∀ a, ¬ p ⟨0, [], 0, a⟩) : Xt r n (fun l i => if p (ahd e 0 l) then .ok (g (ahd e 0 l)) (l.drop 1) i else refuse e why l i) (fun l i => if p (ahd e' 0 l) then .ok (g (ahd e' 0 l)) (l.drop 1) i else refuse e' why l i) := fun l i => by
 cases l with
 | nil => show XtR r n (if p ⟨0, [], 0, e⟩ then _ else _) _; rw [if_neg (hp e)]; exact .refuse
 | cons t l => exact XtR.ite Iff.rfl (fun _ => .ok) (fun _ => .refuse)
theorem xt_want {s : Txt} (hs : s ≠ []) : Xt r n (want e s) (want e' s) := xt_leaf (fun t => sgT t = s) (fun _ => ()) 10 (fun _ h => hs h.symm)
theorem xt_choose {ss : List Txt} (hs : [] ∉ ss) : Xt r n (choose e ss) (choose e' ss) := xt_leaf (fun t => sgT t ∈ ss) (fun t => t.text) 10 (fun _ h => hs h)
theorem xt_nm : Xt r n (nmQ e) (nmQ e') := xt_leaf (fun t => t.kind = 1) (fun t => t.text) 10 (fun _ h => absurd (show (0 : Int) = 1 from h) (by decide))
theorem xt_word : Xt r n (wordQ e) (wordQ e') := xt_leaf (fun t => isW1 t = true) (fun t => t.text) 10 (fun _ h => by simp [isW1] at h)
theorem ne_leaf {l : List Tok} {i i2 : Nat} {x : Txt} {l2 : List Tok} : (nmQ e l i = .ok x l2 i2 → l ≠ []) ∧ (wordQ e l i = .ok x l2 i2 → l ≠ []) := ⟨fun h e0 => by have := sst_nm _ _ _ _ _ h; subst e0; simp at this, fun h e0 => by have := sst_word _ _ _ _ _ h; subst e0; simp at this⟩
theorem ne_choose {ss : List Txt} (hs : [] ∉ ss) {l : List Tok} {i i2 : Nat} {x : Txt} {l2 : List Tok} (h : choose e ss l i = .ok x l2 i2) : l ≠ [] := fun e0 => by
 subst e0
 unfold choose at h
 rw [if_neg (show ¬ sgn e [] ∈ ss from hs)] at h
 cases h
theorem xt_listL (hF : Fine r) {sep : Txt} (hs : sep ≠ []) (hh : sep ∉ hds) {most : Nat} {P P' : Pr α} (hP : Xt r n P P') (hS : Shr P) : ∀ (f f' : Nat) (acc : List α) (l : List Tok) (i : Nat), l.length + 1 ≤ f → (l ++ r).length + 1 ≤ f' → XtR r n (listL e sep most P f acc l i) (listL e' sep most P' f' acc (l ++ r) (i + n))
 | 0, _, _, _, _, h, _ => by omega
 | _ + 1, 0, _, _, _, _, h => by omega
 | f + 1, f' + 1, acc, l, i, h, h' => by
  unfold listL
  refine XtR.ite Iff.rfl (fun _ => .refuse) (fun _ => ?_)
  refine XtR.bind (hP l i) (fun x l1 i1 h1 => ?_)
  have hl := hS _ _ _ _ _ h1
  refine XtR.ite (sgn_app hF hs hh l1) (fun hsg => ?_) (fun _ => .ok)
  have hne := sgn_ne hsg hs
  rw [drop_app hne]
  have := drop_lt hne
  rw [List.length_append] at h'
  exact xt_listL hF hs hh hP hS f f' _ _ _ (by omega) (by rw [List.length_append]; omega)
theorem xt_list (hF : Fine r) {sep : Txt} (hs : sep ≠ []) (hh : sep ∉ hds) {most : Nat} {P P' : Pr α} (hP : Xt r n P P') (hS : Shr P) : Xt r n (listP e sep most P) (listP e' sep most P') := fun _ _ => xt_listL hF hs hh hP hS _ _ _ _ _ (Nat.le_refl _) (Nat.le_refl _)
theorem xt_encl (hF : Fine r) {op cl : Txt} (ho : op ≠ []) (hc : cl ≠ []) (hh : cl ∉ hds) {P P' : Pr α} (hP : Xt r n P P') (hS : Shr P) : Xt r n (encl e op cl P) (encl e' op cl P') := fun l i => by
 unfold encl
 refine XtR.bind (xt_want ho l i) (fun _ l1 i1 _ => ?_)
 refine XtR.ite (sgn_app hF hc hh l1) (fun hsg => ?_) (fun _ => ?_)
 · rw [drop_app (sgn_ne hsg hc)]; exact .ok
 · exact XtR.bind (xt_list hF (by decide) (by decide) hP hS l1 i1) (fun xs l2 i2 _ => XtR.map (xt_want hc l2 i2) (fun _ _ _ _ => rfl))
theorem xt_joinL (hF : Fine r) {ss : List Txt} (hs : ∀ s ∈ ss, s ≠ [] ∧ s ∉ hds) {P P' : Pr Ex} (hP : Xt r n P P') (hS : Shr P) : ∀ (f f' : Nat) (x : Ex) (l : List Tok) (i : Nat), l.length + 1 ≤ f → (l ++ r).length + 1 ≤ f' → XtR r n (joinL e P ss f x l i) (joinL e' P' ss f' x (l ++ r) (i + n))
 | 0, _, _, _, _, h, _ => by omega
 | _ + 1, 0, _, _, _, _, h => by omega
 | f + 1, f' + 1, x, l, i, h, h' => by
  unfold joinL
  refine XtR.ite (sgn_apps hF hs l) (fun hsg => ?_) (fun _ => .ok)
  have hne : l ≠ [] := sgn_ne (s := sgn e l) rfl (hs _ hsg).1
  rw [drop_app hne, ahd_app (e := e) hne]
  have hd := drop_lt hne
  rw [List.length_append] at h'
  refine XtR.bind (hP _ i) (fun y l1 i1 h1 => ?_)
  have hl := hS _ _ _ _ _ h1
  exact xt_joinL hF hs hP hS f f' _ _ _ (by omega) (by rw [List.length_append]; omega)
theorem xt_joined (hF : Fine r) {ss : List Txt} (hs : ∀ s ∈ ss, s ≠ [] ∧ s ∉ hds) {P P' : Pr Ex} (hP : Xt r n P P') (hS : Shr P) : Xt r n (joined e P ss) (joined e' P' ss) := fun l i => by
 unfold joined
 exact XtR.bind (hP l i) (fun x l1 i1 _ => xt_joinL hF hs hP hS _ _ _ _ _ (Nat.le_refl _) (Nat.le_refl _))
theorem xt_signed (hF : Fine r) {E E' F F' : Pr Ex} (hE : Xt r n E E') (hF' : Xt r n F F') (hS : Shr E) : Xt r n (signed e E F) (signed e' E' F') := fun l i => by
 unfold signed
 refine XtR.bind (xt_choose (by decide) l i) (fun s l2 i2 h1 => ?_)
 rw [ahd_app (e := e) (ne_choose (by decide) h1)]
 refine XtR.ite Iff.rfl (fun _ => ?_) (fun _ => XtR.ite Iff.rfl (fun _ => ?_) (fun _ => ?_))
 ·
  refine XtR.map (hF' l2 i2) (fun x _ _ _ => ?_)
  by_cases hk : (ahd e 0 l2).kind = 2
  · rw [if_pos hk, if_pos ((kind_app hF l2).1 hk)]
  · rw [if_neg hk, if_neg (fun h => hk ((kind_app hF l2).2 h))]
 · exact XtR.bind (hE l2 i2) (fun x l3 i3 _ => XtR.map (xt_want (by decide) l3 i3) (fun _ _ _ _ => rfl))
 · exact XtR.bind (xt_word l2 i2) (fun w l3 i3 _ => XtR.map (xt_encl hF (by decide) (by decide) (by decide) hE hS l3 i3) (fun _ _ _ _ => rfl))
theorem signed_nil {E F : Pr Ex} {i : Nat} {x : Ex} {l2 : List Tok} {i2 : Nat} (h : signed e E F [] i = .ok x l2 i2) : False := by
 unfold signed at h
 obtain ⟨a, l1, i1, h1, h2⟩ := bind_ok h
 exact ne_choose (by decide) h1 rfl
theorem xt_factor (hF : Fine r) {E E' F F' : Pr Ex} (hE : Xt r n E E') (hF' : Xt r n F F') (hS : Shr E) : Xt r n (factorB e E F) (factorB e' E' F') := fun l i => by
 cases l with
 | nil => exact fun x l2 i2 h => (signed_nil (show signed e E F [] i = .ok x l2 i2 from h)).elim
 | cons t l =>
  unfold factorB
  refine XtR.ite Iff.rfl (fun _ => .ok) (fun _ => XtR.ite Iff.rfl (fun _ => .ok) (fun _ => XtR.ite Iff.rfl (fun _ => XtR.ite Iff.rfl (fun _ => .ok) (fun _ => ?_)) (fun _ => xt_signed hF hE hF' hS (t :: l) i)))
  exact XtR.map (xt_word (t :: l) i) (fun _ _ _ _ => rfl)
theorem factor_nil {E F : Pr Ex} {i : Nat} {x : Ex} {l2 : List Tok} {i2 : Nat} (h : factorB e E F [] i = .ok x l2 i2) : False := signed_nil (show signed e E F [] i = .ok x l2 i2 from h)
theorem ex_nil : ∀ (d : Nat) {i : Nat} {x : Ex} {l2 : List Tok} {i2 : Nat}, (exD e d).1 [] i = .ok x l2 i2 → False
 | 0, _, _, _, _, h => by cases h
 | d + 1, i, x, l2, i2, h => by
  have h : joined e (joined e (exD e d).2 [[42], [47], [37]]) [[43], [45]] [] i = .ok x l2 i2 := h
  unfold joined at h
  obtain ⟨a, l1, i1, h1, _⟩ := bind_ok h
  obtain ⟨b, l3, i3, h3, _⟩ := bind_ok h1
  cases d with
  | zero => cases h3
  | succ d => exact factor_nil (E := (exD e d).1) (F := (exD e d).2) (i := i) h3
theorem xt_ex (hF : Fine r) : ∀ d, Xt r n (exD e d).1 (exD e' d).1 ∧ Xt r n (exD e d).2 (exD e' d).2
 | 0 => ⟨fun _ i => XtR.refuse (i := i), fun _ i => XtR.refuse (i := i)⟩
 | d + 1 => ⟨xt_joined hF (by decide) (xt_joined hF (by decide) (xt_ex hF d).2 (shr_ex d).2) (shr_joined (shr_ex d).2), xt_factor hF (xt_ex hF d).1 (xt_ex hF d).2 (shr_ex d).1⟩
theorem xt_atom (hF : Fine r) (d : Nat) : Xt r n (atomP e d) (atomP e' d) := fun l i => by
 unfold atomP
 refine XtR.bind (xt_nm l i) (fun m l2 i2 h => ?_)
 rw [ahd_app (e := e) (ne_leaf.1 h)]
 exact XtR.map (xt_encl hF (by decide) (by decide) (by decide) (xt_ex hF d).1 (shr_ex d).1 l2 i2) (fun _ _ _ _ => rfl)
theorem xt_lit (hF : Fine r) (d : Nat) : Xt r n (litP e d) (litP e' d) := fun l i => by
 by_cases hl : l = []
 ·
  subst hl
  intro x l2 i2 h
  unfold litP at h
  rw [if_neg (show ¬ sgn e [] = [33] by simp [sgn, ahd]), if_neg (show ¬ callN e [] = true by simp [callN, ahd])] at h
  obtain ⟨a, l1, i1, h1, _⟩ := bind_ok h
  exact (ex_nil d h1).elim
 ·
  unfold litP
  rw [ahd_app (e := e) hl, drop_app hl, ← callN_app (e := e) hF hl]
  refine XtR.ite (sgn_app' hl) (fun _ => ?_) (fun _ => XtR.ite Iff.rfl (fun _ => ?_) (fun _ => ?_))
  · exact XtR.map (xt_atom hF d _ i) (fun _ _ _ _ => rfl)
  · exact XtR.map (xt_atom hF d _ i) (fun _ _ _ _ => rfl)
  ·
   refine XtR.bind ((xt_ex hF d).1 l i) (fun x l2 i2 _ => ?_)
   refine XtR.bind (xt_choose (by decide) l2 i2) (fun o l3 i3 _ => ?_)
   exact XtR.map ((xt_ex hF d).1 l3 i3) (fun _ _ _ _ => rfl)
theorem xt_clause (hF : Fine r) (d : Nat) : Xt r n (clauseP e d) (clauseP e' d) := fun l i => by
 unfold clauseP
 refine XtR.bind (xt_atom hF d l i) (fun x l2 i2 h => ?_)
 have hne : l ≠ [] := fun e0 => by have := sst_atom d _ _ _ _ _ h; subst e0; simp at this
 rw [ahd_app (e := e) hne]
 refine XtR.ite (sgn_app hF (by decide) (by decide) l2) (fun hsg => ?_) (fun _ => ?_)
 ·
  rw [drop_app (sgn_ne hsg (by decide))]
  exact XtR.bind (xt_list hF (by decide) (by decide) (xt_lit hF d) (shr_lit d) _ i2) (fun b l3 i3 _ => XtR.map (xt_want (by decide) l3 i3) (fun _ _ _ _ => rfl))
 · exact XtR.map (xt_want (by decide) l2 i2) (fun _ _ _ _ => rfl)
theorem xt_field : Xt r n (fieldP e) (fieldP e') := fun l i => by
 unfold fieldP
 exact XtR.bind (xt_word l i) (fun m l2 i2 _ => XtR.bind (xt_want (by decide) l2 i2) (fun _ l3 i3 _ => XtR.map (xt_nm l3 i3) (fun _ _ _ _ => rfl)))
theorem xt_ctor (hF : Fine r) : Xt r n (ctorP e) (ctorP e') := fun l i => by
 unfold ctorP
 exact XtR.bind (xt_word l i) (fun m l2 i2 _ => XtR.map (xt_encl hF (by decide) (by decide) (by decide) xt_field shr_field l2 i2) (fun _ _ _ _ => rfl))
theorem xt_type (hF : Fine r) {l : List Tok} (hl : l ≠ []) (i : Nat) : XtR r n (typeP e l i) (typeP e' (l ++ r) (i + n)) := by
 unfold typeP
 rw [ahd_app (e := e) hl, drop_app hl]
 refine XtR.bind (xt_word _ i) (fun m l2 i2 _ => XtR.bind (xt_choose (by decide) l2 i2) (fun s l3 i3 _ => ?_))
 refine XtR.ite Iff.rfl (fun _ => ?_) (fun _ => ?_)
 · exact XtR.map (xt_nm l3 i3) (fun _ _ _ _ => rfl)
 · exact XtR.map (xt_list hF (by decide) (by decide) (xt_ctor hF) shr_ctor l3 i3) (fun _ _ _ _ => rfl)
theorem xt_flagL (hF : Fine r) : ∀ (f f' : Nat) (a b : Bool) (l : List Tok) (i : Nat), l.length + 1 ≤ f → (l ++ r).length + 1 ≤ f' → XtR r n (flagL e f a b l i) (flagL e' f' a b (l ++ r) (i + n))
 | 0, _, _, _, _, _, h, _ => by omega
 | _ + 1, 0, _, _, _, _, _, h => by omega
 | f + 1, f' + 1, a, b, l, i, h, h' => by
  by_cases hl : l = []
  ·
   subst hl
   intro x l2 i2 hq
   have hq : Rs.ok (a, b) [] i = .ok x l2 i2 := hq
   cases hq
   refine .inl ?_
   show flagL e' (f' + 1) a b r (i + n) = .ok (a, b) r (i + n)
   unfold flagL
   rcases hF with rfl | ⟨t, q, rfl, ⟨hk, _⟩ | ⟨hk, h1, h2⟩⟩
   · rfl
   · rw [if_neg (fun hc => by have : t.kind = 1 := hc.1; omega)]
   ·
    by_cases hc : (ahd e' 0 (t :: q)).kind = 1 ∧ callN e' (t :: q) = false
    · rw [if_pos hc, if_neg (show ¬ (ahd e' 0 (t :: q)).text = wIn from h1), if_neg (show ¬ (ahd e' 0 (t :: q)).text = wOut from h2)]
    · rw [if_neg hc]
  ·
   unfold flagL
   rw [ahd_app (e := e) hl, ← callN_app (e := e) hF hl, drop_app hl]
   have hd := drop_lt hl
   rw [List.length_append] at h'
   refine XtR.ite Iff.rfl (fun _ => XtR.ite Iff.rfl (fun _ => ?_) (fun _ => XtR.ite Iff.rfl (fun _ => ?_) (fun _ => .ok))) (fun _ => .ok)
   · exact xt_flagL hF f f' _ _ _ _ (by omega) (by rw [List.length_append]; omega)
   · exact xt_flagL hF f f' _ _ _ _ (by omega) (by rw [List.length_append]; omega)
theorem xt_decl (hF : Fine r) {l : List Tok} (hl : l ≠ []) (i : Nat) : XtR r n (declP e l i) (declP e' (l ++ r) (i + n)) := by
 unfold declP
 rw [ahd_app (e := e) hl, drop_app hl]
 refine XtR.bind (xt_word _ i) (fun m l2 i2 _ => XtR.bind (xt_encl hF (by decide) (by decide) (by decide) xt_field shr_field l2 i2) (fun cs l3 i3 _ => ?_))
 exact XtR.map (xt_flagL hF _ _ _ _ l3 i3 (Nat.le_refl _) (Nat.le_refl _)) (fun _ _ _ _ => rfl)
theorem xt_init {l : List Tok} (hl : l ≠ []) (i : Nat) : XtR r n (initP e l i) (initP e' (l ++ r) (i + n)) := by
 unfold initP
 rw [ahd_app (e := e) hl, drop_app hl]
 exact XtR.bind (xt_word _ i) (fun m l2 i2 _ => XtR.bind (xt_want (by decide) l2 i2) (fun _ l3 i3 _ => XtR.map (xt_nm l3 i3) (fun _ _ _ _ => rfl)))
theorem xt_comp (hF : Fine r) {B B' : Pr Pg} (hB : Xt r n B B') {l : List Tok} (hl : l ≠ []) (i : Nat) : XtR r n (compB e B l i) (compB e' B' (l ++ r) (i + n)) := by
 unfold compB
 rw [ahd_app (e := e) hl, drop_app hl]
 refine XtR.bind (xt_word _ i) (fun m l2 i2 _ => ?_)
 refine XtR.bind ?_ (fun bs l3 i3 _ => XtR.bind (xt_want (by decide) l3 i3) (fun _ l4 i4 _ => XtR.bind (hB l4 i4) (fun p l5 i5 _ => XtR.map (xt_want (by decide) l5 i5) (fun _ _ _ _ => rfl))))
 refine XtR.ite (sgn_app hF (by decide) (by decide) l2) (fun hsg => ?_) (fun _ => .ok)
 rw [drop_app (sgn_ne hsg (by decide))]
 exact xt_list hF (by decide) (by decide) xt_nm shr_nm _ i2
/-- A component's reading, where something stands. -/
def XtN (r : List Tok) (n : Nat) (P P' : Pr α) : Prop := ∀ l i, l ≠ [] → XtR r n (P l i) (P' (l ++ r) (i + n))
theorem xt_item (hF : Fine r) {d : Nat} {C C' : Pr (Txt × List Txt × Pg × Int)} (hC : XtN r n C C') (p : Pg) : XtN r n (itemP e d C p) (itemP e' d C' p) := fun l i hl => by
 by_cases h96 : i = 96
 ·
  unfold itemP
  rw [if_pos h96]
  exact .refuse
 ·
  by_cases h97 : i + n = 96
  ·
   intro x l2 i2 _
   refine .inr ?_
   unfold itemP
   rw [if_pos h97]
   exact ⟨_, _, rfl⟩
  ·
   unfold itemP
   rw [if_neg h96, if_neg h97, show i + n + 1 = i + 1 + n by omega]
   refine XtR.ite (sgn_app' hl) (fun _ => ?_) (fun _ => XtR.ite (sgn_app' hl) (fun _ => ?_) (fun _ => XtR.ite (sgn_app' hl) (fun _ => ?_) (fun _ => XtR.ite (sgn_app' hl) (fun _ => ?_) (fun _ => ?_))))
   · exact XtR.map (xt_type hF hl _) (fun _ _ _ _ => rfl)
   · exact XtR.map (xt_decl hF hl _) (fun _ _ _ _ => rfl)
   · exact XtR.map (hC l _ hl) (fun _ _ _ _ => rfl)
   · exact XtR.map (xt_init hl _) (fun _ _ _ _ => rfl)
   · exact XtR.map (xt_clause hF d l _) (fun _ _ _ _ => rfl)
theorem isEnd_app {top : Bool} {l : List Tok} (hl : l ≠ []) : isEnd e top l = isEnd e' top (l ++ r) := by
 cases l with
 | nil => exact absurd rfl hl
 | cons t l => rfl
theorem xt_progL (hF : Fine r) {d : Nat} {C C' : Pr (Txt × List Txt × Pg × Int)} (hC : XtN r n C C') (hG : GrS C) : ∀ (f f' : Nat) (p : Pg) (l : List Tok) (i : Nat), l.length + 1 ≤ f → (l ++ r).length + 1 ≤ f' → XtR r n (progL e false d C f p l i) (progL e' false d C' f' p (l ++ r) (i + n))
 | 0, _, _, _, _, h, _ => by omega
 | _ + 1, 0, _, _, _, _, h => by omega
 | f + 1, f' + 1, p, l, i, h, h' => by
  by_cases hl : l = []
  ·
   subst hl
   intro x l2 i2 hq
   unfold progL at hq
   rw [if_neg (show ¬ isEnd e false [] = true by simp [isEnd, ahd])] at hq
   obtain ⟨a, l1, i1, h1, _⟩ := bind_ok hq
   have := (item_gr hG h1).1
   simp at this
  ·
   unfold progL
   refine XtR.ite (by rw [isEnd_app (e := e) (e' := e') hl]) (fun _ => .ok) (fun _ => ?_)
   refine XtR.bind (xt_item hF hC p l i hl) (fun q l1 i1 h1 => ?_)
   have := (item_gr hG h1).1
   rw [List.length_append] at h'
   exact xt_progL hF hC hG f f' q l1 i1 (by omega) (by rw [List.length_append]; omega)
theorem xt_compC (hF : Fine r) : ∀ d, XtN r n (compC e d) (compC e' d)
 | 0 => fun _ i _ => XtR.refuse (i := i)
 | d + 1 => fun l i hl => xt_comp hF (fun l i => by
  rw [progD_eq, progD_eq]
  exact xt_progL hF (xt_compC hF d) (compC_gr d) _ _ _ _ _ (Nat.le_refl _) (Nat.le_refl _)) hl i
theorem item_left {d : Nat} {p q : Pg} {l l1 : List Tok} {i i1 : Nat} (h : itemP e d (compC e d) p l i = .ok q l1 i1) : ∃ c, l1 = l.drop c := by
 have h1 := loc_item (e := e) (e' := e) (d := d) (loc_compC (e := e) (e' := e) d) p l l i 0 (Agr.zero l l)
 rw [h] at h1
 obtain ⟨c, h2, _⟩ := h1
 exact ⟨c, h2⟩
theorem not_end {l : List Tok} (hl : l ≠ []) (hk : ∀ t ∈ l, t.kind ≠ 0) : ¬ isEnd e true l = true := by
 cases l with
 | nil => exact absurd rfl hl
 | cons t l =>
  have := hk t (by simp)
  show ¬ ((decide (t.kind = 0) && decide (t.text = [])) = true)
  simp [this]
theorem top_left {d : Nat} : ∀ (f : Nat) (p : Pg) (l : List Tok) (i : Nat), (∀ t ∈ l, t.kind ≠ 0) → l.length + 1 ≤ f → ∀ q l2 i2, progL e true d (compC e d) f p l i = .ok q l2 i2 → l2 = []
 | 0, _, _, _, _, h, _, _, _, _ => by omega
 | f + 1, p, l, i, hk, h, q, l2, i2, hq => by
  by_cases hl : l = []
  ·
   subst hl
   unfold progL at hq
   rw [if_pos (show isEnd e true [] = true by simp [isEnd, ahd])] at hq
   cases hq
   rfl
  ·
   unfold progL at hq
   rw [if_neg (not_end hl hk)] at hq
   obtain ⟨a, l1, i1, h1, h2⟩ := bind_ok hq
   have hlt := (item_gr (compC_gr d) h1).1
   obtain ⟨c, rfl⟩ := item_left h1
   exact top_left f a _ i1 (fun t ht => hk t (List.mem_of_mem_drop ht)) (by omega) q l2 i2 h2
/-- The items of a whole text, with more behind them. -/
theorem xt_top (hF : Fine r) {d : Nat} : ∀ (f f' : Nat) (p : Pg) (l : List Tok) (i : Nat), (∀ t ∈ l, t.kind ≠ 0) → l.length + 1 ≤ f → (l ++ r).length + 1 ≤ f' → ∀ q l2 i2, progL e true d (compC e d) f p l i = .ok q l2 i2 → Many (progL e' true d (compC e' d) f' p (l ++ r) (i + n)) ∨ ∃ f2, r.length + 1 ≤ f2 ∧ progL e' true d (compC e' d) f' p (l ++ r) (i + n) = progL e' true d (compC e' d) f2 q r (i2 + n)
 | 0, _, _, _, _, _, h, _, _, _, _, _ => by omega
 | _ + 1, 0, _, _, _, _, _, h, _, _, _, _ => by omega
 | f + 1, f' + 1, p, l, i, hk, h, h', q, l2, i2, hq => by
  by_cases hl : l = []
  ·
   subst hl
   unfold progL at hq
   rw [if_pos (show isEnd e true [] = true by simp [isEnd, ahd])] at hq
   cases hq
   exact .inr ⟨f' + 1, h', rfl⟩
  ·
   have hnE : ¬ isEnd e true l = true := not_end hl hk
   unfold progL at hq
   rw [if_neg hnE] at hq
   have hu : progL e' true d (compC e' d) (f' + 1) p (l ++ r) (i + n) = (itemP e' d (compC e' d) p (l ++ r) (i + n)).bind fun p l i => progL e' true d (compC e' d) f' p l i := by
    show (if isEnd e' true (l ++ r) = true then _ else _) = _
    rw [if_neg (by rw [← isEnd_app (e := e) hl]; exact hnE)]
   rw [hu]
   obtain ⟨a, l1, i1, h1, h2⟩ := bind_ok hq
   have hlt := (item_gr (compC_gr d) h1).1
   rw [List.length_append] at h'
   rcases xt_item hF (xt_compC hF d) p l i hl a l1 i1 h1 with g | ⟨_, _, g⟩
   ·
    rw [g]
    obtain ⟨c, rfl⟩ := item_left h1
    exact xt_top hF f f' a _ i1 (fun t ht => hk t (List.mem_of_mem_drop ht)) (by omega) (by rw [List.length_append]; omega) q l2 i2 h2
   ·
    rw [g]
    exact .inl ⟨_, _, rfl⟩
end
/-- The items of two programs. -/
def both (p q : Pg) : Pg := .mk (p.types ++ q.types) (p.decls ++ q.decls) (p.comps ++ q.comps) (p.inits ++ q.inits) (p.clauses ++ q.clauses)
theorem both_none (p : Pg) : both p .none = p := by
 cases p
 simp [both, Pg.types, Pg.decls, Pg.comps, Pg.inits, Pg.clauses, Pg.none]
theorem map_map {α β γ : Type} (R : Rs α) (f : α → β) (g : β → γ) : (R.map f).map g = R.map (fun x => g (f x)) := by cases R <;> rfl
section
variable {e : Nat}
theorem item_both {d : Nat} {C : Pr (Txt × List Txt × Pg × Int)} (p0 p : Pg) (l : List Tok) (i : Nat) : itemP e d C (both p0 p) l i = (itemP e d C p l i).map (both p0) := by
 unfold itemP
 split
 · rfl
 ·
  split
  · rw [map_map]; congr 1; funext x; simp [both, Pg.types, Pg.decls, Pg.comps, Pg.inits, Pg.clauses]
  ·
   split
   · rw [map_map]; congr 1; funext x; simp [both, Pg.types, Pg.decls, Pg.comps, Pg.inits, Pg.clauses]
   ·
    split
    · rw [map_map]; congr 1; funext x; simp [both, Pg.types, Pg.decls, Pg.comps, Pg.inits, Pg.clauses]
    ·
     split
     · rw [map_map]; congr 1; funext x; simp [both, Pg.types, Pg.decls, Pg.comps, Pg.inits, Pg.clauses]
     · rw [map_map]; congr 1; funext x; simp [both, Pg.types, Pg.decls, Pg.comps, Pg.inits, Pg.clauses]
theorem progL_both {d : Nat} {top : Bool} {C : Pr (Txt × List Txt × Pg × Int)} (p0 : Pg) : ∀ (f : Nat) (p : Pg) (l : List Tok) (i : Nat), progL e top d C f (both p0 p) l i = (progL e top d C f p l i).map (both p0)
 | 0, _, _, _ => rfl
 | f + 1, p, l, i => by
  unfold progL
  split
  · rfl
  ·
   rw [item_both]
   cases itemP e d C p l i with
   | bad w a m => rfl
   | ok x m j => exact progL_both p0 f x m j
end
/-- Two texts' tokens, one behind the other. -/
theorem two_prog {ea e' d i j : Nat} {la lb l2 l3 : List Tok} {p q : Pg} (ha : progD ea d true la 0 = .ok p l2 i) (hb : progD e' d true lb 0 = .ok q l3 j) (ka : ∀ t ∈ la, t.kind ≠ 0) (kb : ∀ t ∈ lb, t.kind ≠ 0) (hF : Fine lb) :
  Many (progD e' d true (la ++ lb) 0) ∨ progD e' d true (la ++ lb) 0 = .ok (both p q) [] (j + i) := by
 rw [progD_eq] at ha hb
 rw [progD_eq]
 rcases xt_top (e' := e') (r := lb) (n := 0) hF _ ((la ++ lb).length + 1) .none la 0 ka (Nat.le_refl _) (Nat.le_refl _) _ _ _ ha with g | ⟨f2, hf2, g⟩
 · exact .inl g
 ·
  have g : progL e' true d (compC e' d) ((la ++ lb).length + 1) .none (la ++ lb) 0 = progL e' true d (compC e' d) f2 p lb i := g
  have hm : progL e' true d (compC e' d) f2 p lb i = (progL e' true d (compC e' d) f2 .none lb i).map (both p) := by
   have := progL_both (e := e') (d := d) (top := true) (C := compC e' d) p f2 .none lb i
   rwa [both_none] at this
  rw [g, hm]
  have hl3 := top_left _ _ _ _ kb (Nat.le_refl _) _ _ _ hb
  subst hl3
  rcases xt_top (e' := e') (r := []) (n := i) (.inl rfl) _ f2 .none lb 0 kb (Nat.le_refl _) (by rw [List.append_nil]; exact hf2) _ _ _ hb with k | ⟨f3, hf3, k⟩
  ·
   rw [List.append_nil, Nat.zero_add] at k
   obtain ⟨a, l, k⟩ := k
   rw [k]
   exact .inl ⟨_, _, rfl⟩
  ·
   rw [List.append_nil, Nat.zero_add] at k
   rw [k]
   refine .inr ?_
   cases f3 with
   | zero => omega
   | succ f3 =>
    show Rs.map (both p) (if isEnd e' true [] = true then _ else _) = _
    rw [if_pos (show isEnd e' true [] = true by simp [isEnd, ahd])]
    rfl
/-- The items' first tokens. -/
theorem fine_of {e d i j : Nat} {l l2 : List Tok} {q : Pg} (h : progD e d true l i = .ok q l2 j) (hk : ∀ t ∈ l, t.kind ≠ 0) (hw : ∀ t m, l = t :: m → t.kind = 1 → t.text ≠ wIn ∧ t.text ≠ wOut) : Fine l := by
 by_cases hl : l = []
 · exact .inl hl
 ·
  rw [progD_eq] at h
  unfold progL at h
  rw [if_neg (not_end hl hk)] at h
  obtain ⟨a, l1, i1, h1, _⟩ := bind_ok h
  obtain ⟨t, m, rfl⟩ : ∃ t m, l = t :: m := by
   cases l with
   | nil => exact absurd rfl hl
   | cons t m => exact ⟨t, m, rfl⟩
  refine .inr ⟨t, m, rfl, ?_⟩
  have hs : ∀ s, s ≠ [] → s ∈ hds → sgn e (t :: m) = s → t.kind = 4 ∧ t.text ∈ hds := fun s h0 hm hq => by
   have hq : (if t.kind = 4 then t.text else []) = s := hq
   split at hq
   · next h4 => exact ⟨h4, by rw [hq]; exact hm⟩
   · exact absurd hq.symm h0
  unfold itemP at h1
  split at h1
  · cases h1
  ·
   split at h1
   · next hq => exact .inl (hs _ (by decide) (by decide) hq)
   ·
    split at h1
    · next hq => exact .inl (hs _ (by decide) (by decide) hq)
    ·
     split at h1
     · next hq => exact .inl (hs _ (by decide) (by decide) hq)
     ·
      split at h1
      · next hq => exact .inl (hs _ (by decide) (by decide) hq)
      ·
       obtain ⟨x, h2, _⟩ := map_ok h1
       unfold clauseP at h2
       obtain ⟨y, l3, i3, h3, _⟩ := bind_ok h2
       unfold atomP at h3
       obtain ⟨z, l4, i4, h4, _⟩ := bind_ok h3
       unfold nmQ at h4
       split at h4
       ·
        next hk1 =>
        have hk1 : t.kind = 1 := hk1
        exact .inr ⟨hk1, (hw t m rfl hk1).1, (hw t m rfl hk1).2⟩
       · cases h4
end Go.Proofs.YtdjehbdpcdikkaaGreatDoor

namespace Go.Proofs.YtdjehbdpcdikkaaGreatDoor
open Go.RowKit

theorem hide {p : Prop} (h : p) : Hid p := h
theorem unhide {p : Prop} (h : Hid p) : p := h.out
theorem ret_bool {a b : Bool} (h : a = b) : Ending.returned (.bool a) = .returned (.bool b) := by rw [h]
theorem ret_int {a b : Int} (h : a = b) : Ending.returned (.int .i64 a) = .returned (.int .i64 b) := by rw [h]

set_option maxHeartbeats 400000 in
theorem begins_any (n : Int) (w : World) : Calls Tryz.prog 101 #[.int .u8 n] w fun e w' => e = .returned (.bool (isL n)) ∧ w' = w := by
 go_enter Tryz.func101, Tryz.ntmps101
 go_wp2
 all_goals
  go_ret
  refine ⟨ret_bool ?_, rfl⟩
  unfold isL
  rw [Bool.eq_iff_iff]
  simp <;> omega
set_option maxHeartbeats 400000 in
theorem isDigit_any (n : Int) (w : World) : Calls Tryz.prog 103 #[.int .u8 n] w fun e w' => e = .returned (.bool (isD n)) ∧ w' = w := by
 go_enter Tryz.func103, Tryz.ntmps103
 go_wp2
 all_goals
  go_ret
  refine ⟨ret_bool ?_, rfl⟩
  unfold isD
  rw [Bool.eq_iff_iff]
  simp <;> omega
set_option maxHeartbeats 400000 in
theorem isBlank_any (n : Int) (w : World) : Calls Tryz.prog 97 #[.int .u8 n] w fun e w' => e = .returned (.bool (isB n)) ∧ w' = w := by
 go_enter Tryz.func97, Tryz.ntmps97
 go_wp2
 all_goals
  go_ret
  refine ⟨ret_bool ?_, rfl⟩
  unfold isB
  rw [Bool.eq_iff_iff]
  simp <;> omega
set_option maxHeartbeats 400000 in
theorem letter_any (n : Int) (w : World) : Calls Tryz.prog 78 #[.int .u8 n] w fun e w' => e = .returned (.bool (isL n)) ∧ w' = w := by
 go_enter Tryz.func78, Tryz.ntmps78
 go_wp2
 all_goals
  go_ret
  refine ⟨ret_bool ?_, rfl⟩
  unfold isL
  rw [Bool.eq_iff_iff]
  simp <;> omega
set_option maxHeartbeats 400000 in
theorem digit_any (n : Int) (w : World) : Calls Tryz.prog 43 #[.int .u8 n] w fun e w' => e = .returned (.bool (isD n)) ∧ w' = w := by
 go_enter Tryz.func43, Tryz.ntmps43
 go_wp2
 all_goals
  go_ret
  refine ⟨ret_bool ?_, rfl⟩
  unfold isD
  rw [Bool.eq_iff_iff]
  simp <;> omega
set_option maxHeartbeats 400000 in
theorem inWord_any (n : Int) (w : World) : Calls Tryz.prog 128 #[.int .u8 n] w fun e w' => e = .returned (.bool (inW n)) ∧ w' = w := by
 cases h : isL n with
 | true =>
  go_enter Tryz.func128, Tryz.ntmps128
  go_wp2_with (go_at_call 101; refine (begins_any _ _).mono ?_; rintro e w' ⟨rfl, rfl⟩; rw [h])
  go_ret
  exact ⟨ret_bool (by unfold inW; rw [h]; rfl), rfl⟩
 | false =>
  go_enter Tryz.func128, Tryz.ntmps128
  go_wp2_with (first
   | (go_at_call 101; refine (begins_any _ _).mono ?_; rintro e w' ⟨rfl, rfl⟩; rw [h])
   | (go_at_call 103; refine (isDigit_any _ _).mono ?_; rintro e w' ⟨rfl, rfl⟩))
  go_ret
  exact ⟨ret_bool (by unfold inW; rw [h]; rfl), rfl⟩

theorem drop_at (s : ByteArray) (k : Nat) (h : k < s.size) : s.data.toList.drop k = s[k] :: s.data.toList.drop (k + 1) := by
 rw [List.drop_eq_getElem_cons (by simpa using h)]; rfl
theorem drop_end (s : ByteArray) (k : Nat) (h : s.size ≤ k) : s.data.toList.drop k = [] :=
 List.drop_eq_nil_of_le (by rw [Array.length_toList]; exact h)
theorem len_drop (s : ByteArray) (k : Nat) : (s.data.toList.drop k).length = s.size - k := by rw [List.length_drop, Array.length_toList]; rfl
theorem bv_eq {c : UInt8} {k : Nat} (hk : k < 256) : bv c = k ↔ c = UInt8.ofNat k := by
 unfold bv
 constructor
 ·
  intro h
  exact UInt8.toNat_inj.1 (by rw [UInt8.toNat_ofNat', Nat.mod_eq_of_lt (by omega)]; omega)
 ·
  rintro rfl
  rw [UInt8.toNat_ofNat', Nat.mod_eq_of_lt (by omega)]
end Go.Proofs.YtdjehbdpcdikkaaGreatDoor
