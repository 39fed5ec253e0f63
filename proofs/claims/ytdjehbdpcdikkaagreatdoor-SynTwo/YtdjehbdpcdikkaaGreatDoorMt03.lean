/- The plain reading: what stands behind the token behind the wrong one has no part in it. -/
import Derived.Test.YtdjehbdpcdikkaaGreatDoorMt02
namespace Go.Proofs.YtdjehbdpcdikkaaGreatDoor

/-- Two rows of tokens begin with the same n. -/
def Agr (n : Nat) (l l' : List Tok) : Prop := n ≤ l.length ∧ n ≤ l'.length ∧ l.take n = l'.take n
theorem Agr.zero (l l' : List Tok) : Agr 0 l l' := ⟨Nat.zero_le _, Nat.zero_le _, by simp⟩
theorem Agr.drop {n c : Nat} {l l' : List Tok} (h : Agr n l l') (hc : c ≤ n) : Agr (n - c) (l.drop c) (l'.drop c) := by
 obtain ⟨h1, h2, h3⟩ := h
 refine ⟨by rw [List.length_drop]; omega, by rw [List.length_drop]; omega, ?_⟩
 have e : ∀ x : List Tok, (x.drop c).take (n - c) = (x.take n).drop c := fun x => by rw [List.drop_take]
 rw [e, e, h3]
theorem Agr.ahd {n k e e' : Nat} {l l' : List Tok} (h : Agr n l l') (hk : k < n) : ahd e k l = ahd e' k l' := by
 obtain ⟨h1, h2, h3⟩ := h
 have g1 : l[k]? = (l.take n)[k]? := by rw [List.getElem?_take, if_pos hk]
 have g2 : l'[k]? = (l'.take n)[k]? := by rw [List.getElem?_take, if_pos hk]
 have hl : k < l.length := by omega
 have g3 : l'[k]? = some l[k] := by rw [g2, ← h3, ← g1, List.getElem?_eq_getElem hl]
 unfold Go.Proofs.YtdjehbdpcdikkaaGreatDoor.ahd
 rw [List.getD_eq_getElem?_getD, List.getD_eq_getElem?_getD, g3, List.getElem?_eq_getElem hl]
 rfl
section
variable {α β : Type} {e e' : Nat}
/-- Two readings, of rows that begin alike, come to the same, as far as they saw the same. -/
def LocR (e : Nat) (R R' : Rs α) (l l' : List Tok) (n : Nat) : Prop := match R with
 | .ok x r i => ∃ c, r = l.drop c ∧ (c + 2 ≤ n → R' = .ok x (l'.drop c) i)
 | .bad w a r => ∃ c, r = l.drop c ∧ a = ((ahd e 0 r).at_ : Int) ∧ (c + 2 ≤ n → R' = .bad w a (l'.drop c))
def Loc (e : Nat) (P P' : Pr α) : Prop := ∀ l l' it n, Agr n l l' → LocR e (P l it) (P' l' it) l l' n
theorem LocR.congr {R R' R2 : Rs α} {l l' : List Tok} {n : Nat} (h : LocR e R R' l l' n) (hq : 2 ≤ n → R' = R2) : LocR e R R2 l l' n := by
 cases R with
 | bad w a r =>
  obtain ⟨c, h1, h2, h3⟩ := h
  exact ⟨c, h1, h2, fun hn => (hq (by omega)).symm.trans (h3 hn)⟩
 | ok x r i =>
  obtain ⟨c, h1, h3⟩ := h
  exact ⟨c, h1, fun hn => (hq (by omega)).symm.trans (h3 hn)⟩
/-- Behind some tokens. -/
theorem LocR.shift {R R' : Rs α} {l l' : List Tok} {d m n : Nat} (h : LocR e R R' (l.drop d) (l'.drop d) m) (hm : d + 2 ≤ n → m = n - d) : LocR e R R' l l' n := by
 cases R with
 | bad w a r =>
  obtain ⟨c, h1, h2, h3⟩ := h
  exact ⟨d + c, by rw [h1, List.drop_drop], h2, fun hn => by have := hm (by omega); rw [h3 (by omega), List.drop_drop]⟩
 | ok x r i =>
  obtain ⟨c, h1, h3⟩ := h
  exact ⟨d + c, by rw [h1, List.drop_drop], fun hn => by have := hm (by omega); rw [h3 (by omega), List.drop_drop]⟩
theorem LocR.refuse {why : Int} {l l' : List Tok} {it n : Nat} (h : Agr n l l') : LocR e (refuse (α := α) e why l it) (refuse e' why l' it) l l' n :=
 ⟨0, rfl, rfl, fun hn => by show Rs.bad why ((ahd e' 0 l').at_ : Int) l' = _; rw [h.ahd (e := e) (e' := e') (k := 0) (by omega)]; rfl⟩
theorem loc_refuse (why : Int) : Loc e (refuse (α := α) e why) (refuse e' why) := fun _ _ _ _ h => .refuse h
theorem LocR.bind {R R' : Rs α} {f f' : α → Pr β} {l l' : List Tok} {n : Nat} (h : Agr n l l') (hR : LocR e R R' l l' n)
  (hf : ∀ x c i m, R = .ok x (l.drop c) i → (n < c ∧ m = 0 ∨ c ≤ n ∧ m = n - c) → Agr m (l.drop c) (l'.drop c) → LocR e (f x (l.drop c) i) (f' x (l'.drop c) i) (l.drop c) (l'.drop c) m) :
  LocR e (R.bind f) (R'.bind f') l l' n := by
 cases R with
 | bad w a r =>
  obtain ⟨c, h1, h2, h3⟩ := hR
  exact ⟨c, h1, h2, fun hn => by rw [h3 hn]; rfl⟩
 | ok x r i =>
  obtain ⟨c, rfl, h3⟩ := hR
  show LocR e (f x (l.drop c) i) (R'.bind f') l l' n
  have key : ∀ m, (n < c ∧ m = 0 ∨ c ≤ n ∧ m = n - c) → Agr m (l.drop c) (l'.drop c) → LocR e (f x (l.drop c) i) (R'.bind f') l l' n := fun m hm ha => by
   have h4 := hf x c i m rfl hm ha
   have h5 : c + 2 ≤ n → R'.bind f' = f' x (l'.drop c) i := fun hn => by rw [h3 hn]; rfl
   generalize f x (l.drop c) i = Q at h4
   generalize f' x (l'.drop c) i = Q' at h4 h5
   cases Q with
   | bad w a r =>
    obtain ⟨c2, k1, k2, k3⟩ := h4
    exact ⟨c + c2, by rw [k1, List.drop_drop], k2, fun hn => by rw [h5 (by omega), k3 (by omega), List.drop_drop]⟩
   | ok y r j =>
    obtain ⟨c2, k1, k3⟩ := h4
    exact ⟨c + c2, by rw [k1, List.drop_drop], fun hn => by rw [h5 (by omega), k3 (by omega), List.drop_drop]⟩
  by_cases hc : c ≤ n
  · exact key (n - c) (.inr ⟨hc, rfl⟩) (h.drop hc)
  · exact key 0 (.inl ⟨by omega, rfl⟩) (Agr.zero _ _)
theorem LocR.map {R R' : Rs α} {l l' : List Tok} {n : Nat} (g : α → β) (h : LocR e R R' l l' n) : LocR e (R.map g) (R'.map g) l l' n := by
 cases R with
 | bad w a r =>
  obtain ⟨c, k1, k2, k3⟩ := h
  exact ⟨c, k1, k2, fun hn => by rw [k3 hn]; rfl⟩
 | ok x r i =>
  obtain ⟨c, k1, k3⟩ := h
  exact ⟨c, k1, fun hn => by rw [k3 hn]; rfl⟩
theorem Loc.bind {P P' : Pr α} {f f' : α → Pr β} (hP : Loc e P P') (hf : ∀ x, Loc e (f x) (f' x)) : Loc e (fun l i => (P l i).bind f) (fun l i => (P' l i).bind f') := fun l l' it n h => LocR.bind h (hP l l' it n h) (fun x _ i _ _ _ ha => hf x _ _ i _ ha)
theorem Loc.map {P P' : Pr α} (g : α → β) (hP : Loc e P P') : Loc e (fun l i => (P l i).map g) (fun l i => (P' l i).map g) := fun l l' it n h => (hP l l' it n h).map g
/-- A reading that looks at the next token. -/
theorem Loc.tok {Q Q' : Tok → Pr α} (h : ∀ t, Loc e (Q t) (Q' t)) : Loc e (fun l i => Q (ahd e 0 l) l i) (fun l i => Q' (ahd e' 0 l) l i) := fun l l' it n ha =>
 (h (ahd e 0 l) l l' it n ha).congr (fun hn => by rw [ha.ahd (e := e) (e' := e') (k := 0) (by omega)])
/-- A reading that looks at the next two tokens. -/
theorem Loc.tok2 {Q Q' : Tok → Tok → Pr α} (h : ∀ t u, Loc e (Q t u) (Q' t u)) : Loc e (fun l i => Q (ahd e 0 l) (ahd e 1 l) l i) (fun l i => Q' (ahd e' 0 l) (ahd e' 1 l) l i) := fun l l' it n ha =>
 (h (ahd e 0 l) (ahd e 1 l) l l' it n ha).congr (fun hn => by rw [ha.ahd (e := e) (e' := e') (k := 0) (by omega), ha.ahd (e := e) (e' := e') (k := 1) (by omega)])
/-- Behind the next token. -/
theorem Loc.drop1 {P P' : Pr α} (h : Loc e P P') : Loc e (fun l i => P (l.drop 1) i) (fun l i => P' (l.drop 1) i) := fun l l' it n ha => by
 by_cases hn : 1 ≤ n
 · exact (h (l.drop 1) (l'.drop 1) it (n - 1) (ha.drop hn)).shift (fun _ => rfl)
 · exact (h (l.drop 1) (l'.drop 1) it 0 (Agr.zero _ _)).shift (fun h => by omega)
theorem loc_ok (x : α) : Loc e (fun l i => .ok x l i) (fun l i => .ok x l i) := fun _ _ _ _ _ => ⟨0, rfl, fun _ => rfl⟩
theorem loc_ok1 (x : α) : Loc e (fun l i => .ok x (l.drop 1) i) (fun l i => .ok x (l.drop 1) i) := fun _ _ _ _ _ => ⟨1, rfl, fun _ => rfl⟩
theorem Loc.ite {p : Prop} [Decidable p] {A A' B B' : Pr α} (hA : Loc e A A') (hB : Loc e B B') : Loc e (fun l i => if p then A l i else B l i) (fun l i => if p then A' l i else B' l i) := by
 by_cases h : p
 · simp only [if_pos h]; exact hA
 · simp only [if_neg h]; exact hB
/-- The sign that a token is. -/
def sgT (t : Tok) : Txt := if t.kind = 4 then t.text else []
theorem loc_leaf (p : Tok → Prop) [∀ t, Decidable (p t)] (g : Tok → α) (why : Int) : Loc e (fun l i => if p (ahd e 0 l) then .ok (g (ahd e 0 l)) (l.drop 1) i else refuse e why l i) (fun l i => if p (ahd e' 0 l) then .ok (g (ahd e' 0 l)) (l.drop 1) i else refuse e' why l i) :=
 Loc.tok (Q := fun t l i => if p t then .ok (g t) (l.drop 1) i else refuse e why l i) (Q' := fun t l i => if p t then .ok (g t) (l.drop 1) i else refuse e' why l i) (fun _ => Loc.ite (loc_ok1 _) (loc_refuse why))
theorem loc_want (s : Txt) : Loc e (want e s) (want e' s) := loc_leaf (fun t => sgT t = s) (fun _ => ()) 10
theorem loc_choose (ss : List Txt) : Loc e (choose e ss) (choose e' ss) := loc_leaf (fun t => sgT t ∈ ss) (fun t => t.text) 10
theorem loc_nm : Loc e (nmQ e) (nmQ e') := loc_leaf (fun t => t.kind = 1) (fun t => t.text) 10
theorem loc_word : Loc e (wordQ e) (wordQ e') := loc_leaf (fun t => isW1 t = true) (fun t => t.text) 10
theorem sgn_ne {l : List Tok} {s : Txt} (h : sgn e l = s) (hs : s ≠ []) : l ≠ [] := fun e0 => by
 subst e0
 simp [sgn, ahd] at h
 exact hs (by simpa using h.symm)
theorem drop_len {l : List Tok} {c : Nat} {s : Txt} (h : sgn e (l.drop c) = s) (hs : s ≠ []) : ((l.drop c).drop 1).length + 1 ≤ l.length := by
 have := drop_lt (sgn_ne h hs)
 have : (l.drop c).length ≤ l.length := by simp
 omega
theorem Agr.sgn {n : Nat} {l l' : List Tok} (h : Agr n l l') (hn : 1 ≤ n) : sgn e l = Go.Proofs.YtdjehbdpcdikkaaGreatDoor.sgn e' l' := by
 unfold Go.Proofs.YtdjehbdpcdikkaaGreatDoor.sgn
 rw [h.ahd (e := e) (e' := e') (k := 0) (by omega)]
/-- A loop that goes on behind a token, where something else ends it. -/
theorem LocR.next {p : Prop} {p' : Prop} [Decidable p] [Decidable p'] {A A' B B' : Rs α} {l l' : List Tok} {n : Nat} (hp : 2 ≤ n → (p ↔ p')) (hA : p → LocR e A A' l l' n) (hB : ¬ p → LocR e B B' l l' n) : LocR e (if p then A else B) (if p' then A' else B') l l' n := by
 by_cases h : p
 ·
  rw [if_pos h]
  exact (hA h).congr (fun hn => by rw [if_pos ((hp hn).1 h)])
 ·
  rw [if_neg h]
  exact (hB h).congr (fun hn => by rw [if_neg (fun h' => h ((hp hn).2 h'))])
/-- Lists. -/
theorem loc_listL {sep : Txt} (hsep : sep ≠ []) {most : Nat} {P P' : Pr α} (hP : Loc e P P') : ∀ (f f' : Nat) (acc : List α) (l l' : List Tok) (it n : Nat), l.length + 1 ≤ f → (2 ≤ n → l'.length + 1 ≤ f') → Agr n l l' → LocR e (listL e sep most P f acc l it) (listL e' sep most P' f' acc l' it) l l' n := by
 intro f
 induction f with
 | zero => intro f' acc l l' it n h1; omega
 | succ f ih =>
  intro f' acc l l' it n h1 h2 ha
  have key : ∀ g, (2 ≤ n → l'.length + 1 ≤ g + 1) → LocR e (listL e sep most P (f + 1) acc l it) (listL e' sep most P' (g + 1) acc l' it) l l' n := fun g hg => by
   unfold listL
   refine LocR.next (fun _ => Iff.rfl) (fun _ => .refuse ha) (fun hm => ?_)
   refine LocR.bind ha (hP l l' it n ha) (fun x c i m hx hmc hagr => ?_)
   refine LocR.next (fun hn => by rw [hagr.sgn (e := e) (e' := e') (by omega)]) (fun hs => ?_) (fun _ => loc_ok _ _ _ _ _ hagr)
   have hl := drop_len hs hsep
   by_cases hm1 : 1 ≤ m
   ·
    refine (ih g _ _ _ _ (m - 1) (by omega) (fun hm2 => ?_) (hagr.drop hm1)).shift (fun _ => rfl)
    have hs' : Go.Proofs.YtdjehbdpcdikkaaGreatDoor.sgn e' (l'.drop c) = sep := by rw [← hagr.sgn (e := e) (e' := e') hm1]; exact hs
    have := drop_len hs' hsep
    have hn2 : 2 ≤ n := by omega
    have := hg hn2
    omega
   · exact (ih g _ _ _ _ 0 (by omega) (fun h => by omega) (Agr.zero _ _)).shift (fun h => by omega)
  cases f' with
  | zero => exact (key 0 (fun h => by have := h2 h; omega)).congr (fun hn => by have := h2 hn; omega)
  | succ g => exact key g h2
theorem loc_list {sep : Txt} (hsep : sep ≠ []) {most : Nat} {P P' : Pr α} (hP : Loc e P P') : Loc e (listP e sep most P) (listP e' sep most P') := fun _ _ _ _ h => loc_listL hsep hP _ _ _ _ _ _ _ (Nat.le_refl _) (fun _ => Nat.le_refl _) h
theorem loc_encl {op cl : Txt} {P P' : Pr α} (hP : Loc e P P') : Loc e (encl e op cl P) (encl e' op cl P') :=
 Loc.bind (loc_want op) (fun _ => Loc.tok (Q := fun t l i => if sgT t = cl then .ok [] (l.drop 1) i else (listP e [44] 8 P l i).bind fun xs l i => (want e cl l i).map fun _ => xs) (Q' := fun t l i => if sgT t = cl then .ok [] (l.drop 1) i else (listP e' [44] 8 P' l i).bind fun xs l i => (want e' cl l i).map fun _ => xs)
  (fun _ => Loc.ite (loc_ok1 _) (Loc.bind (loc_list (by decide) hP) (fun xs => Loc.map (fun _ => xs) (loc_want cl)))))
theorem loc_joinL {ss : List Txt} (hne : [] ∉ ss) {P P' : Pr Ex} (hP : Loc e P P') : ∀ (f f' : Nat) (x : Ex) (l l' : List Tok) (it n : Nat), l.length + 1 ≤ f → (2 ≤ n → l'.length + 1 ≤ f') → Agr n l l' → LocR e (joinL e P ss f x l it) (joinL e' P' ss f' x l' it) l l' n := by
 intro f
 induction f with
 | zero => intro f' x l l' it n h1; omega
 | succ f ih =>
  intro f' x l l' it n h1 h2 ha
  have key : ∀ g, (2 ≤ n → l'.length + 1 ≤ g + 1) → LocR e (joinL e P ss (f + 1) x l it) (joinL e' P' ss (g + 1) x l' it) l l' n := fun g hg => by
   unfold joinL
   refine LocR.next (fun hn => by rw [ha.sgn (e := e) (e' := e') (by omega)]) (fun hs => ?_) (fun _ => loc_ok _ _ _ _ _ ha)
   have hl : (l.drop 1).length + 1 ≤ l.length := by have := drop_len (l := l) (c := 0) (s := sgn e l) rfl (fun e0 => hne (e0 ▸ hs)); simpa using this
   have go : ∀ m, (n < 1 ∧ m = 0 ∨ 1 ≤ n ∧ m = n - 1) → Agr m (l.drop 1) (l'.drop 1) → LocR e ((P (l.drop 1) it).bind fun y l2 i => joinL e P ss f (opE (Go.Proofs.YtdjehbdpcdikkaaGreatDoor.ahd e 0 l).text x y) l2 i) ((P' (l'.drop 1) it).bind fun y l2 i => joinL e' P' ss g (opE (Go.Proofs.YtdjehbdpcdikkaaGreatDoor.ahd e 0 l).text x y) l2 i) (l.drop 1) (l'.drop 1) m := fun m hm hag => by
    refine LocR.bind hag (hP _ _ it m hag) (fun y c i k _ hk hagr => ih g _ _ _ _ _ ?_ (fun hk2 => ?_) hagr)
    ·
     simp only [List.length_drop] at hl ⊢
     omega
    ·
     have h3 := hg (by omega)
     have h4 := hagr.2.1
     simp only [List.length_drop] at h4 ⊢
     omega
   by_cases hn1 : 1 ≤ n
   ·
    refine ((go (n - 1) (.inr ⟨hn1, rfl⟩) (ha.drop hn1)).shift (fun _ => rfl)).congr (fun hn => ?_)
    rw [ha.ahd (e := e) (e' := e') (k := 0) (by omega)]
   · exact ((go 0 (.inl ⟨by omega, rfl⟩) (Agr.zero _ _)).shift (fun h => by omega)).congr (fun hn => by omega)
  cases f' with
  | zero => exact (key 0 (fun h => by have := h2 h; omega)).congr (fun hn => by have := h2 hn; omega)
  | succ g => exact key g h2
theorem loc_joined {ss : List Txt} (hne : [] ∉ ss) {P P' : Pr Ex} (hP : Loc e P P') : Loc e (joined e P ss) (joined e' P' ss) := fun l l' it n h => LocR.bind h (hP l l' it n h) (fun _ _ _ _ _ _ hagr => loc_joinL hne hP _ _ _ _ _ _ _ (Nat.le_refl _) (fun _ => Nat.le_refl _) hagr)
theorem loc_signed {E E' F F' : Pr Ex} (hE : Loc e E E') (hF : Loc e F F') : Loc e (signed e E F) (signed e' E' F') :=
 Loc.tok (α := Ex) (Q := fun t0 l i => (choose e [[45], [40], [36]] l i).bind fun s l2 i =>
   if s = [45] then (F l2 i).map fun x => if (ahd e 0 l2).kind = 2 then .mk 2 (- x.num) [] [] t0.at_ else opE [45] (.mk 2 0 [] [] t0.at_) x
   else if s = [40] then (E l2 i).bind fun x l i => (want e [41] l i).map fun _ => x
   else (wordQ e l2 i).bind fun w l3 i => (encl e [40] [41] E l3 i).map fun ks => .mk 6 0 w ks t0.at_)
  (Q' := fun t0 l i => (choose e' [[45], [40], [36]] l i).bind fun s l2 i =>
   if s = [45] then (F' l2 i).map fun x => if (ahd e' 0 l2).kind = 2 then .mk 2 (- x.num) [] [] t0.at_ else opE [45] (.mk 2 0 [] [] t0.at_) x
   else if s = [40] then (E' l2 i).bind fun x l i => (want e' [41] l i).map fun _ => x
   else (wordQ e' l2 i).bind fun w l3 i => (encl e' [40] [41] E' l3 i).map fun ks => .mk 6 0 w ks t0.at_)
  (fun t0 => Loc.bind (loc_choose _) (fun _ => Loc.ite
   (Loc.tok (α := Ex) (Q := fun t l i => (F l i).map fun x => if t.kind = 2 then .mk 2 (- x.num) [] [] t0.at_ else opE [45] (.mk 2 0 [] [] t0.at_) x) (Q' := fun t l i => (F' l i).map fun x => if t.kind = 2 then .mk 2 (- x.num) [] [] t0.at_ else opE [45] (.mk 2 0 [] [] t0.at_) x) (fun _ => Loc.map _ hF))
   (Loc.ite (Loc.bind hE (fun x => Loc.map (fun _ => x) (loc_want [41]))) (Loc.bind loc_word (fun _ => Loc.map _ (loc_encl hE))))))
theorem loc_factor {E E' F F' : Pr Ex} (hE : Loc e E E') (hF : Loc e F F') : Loc e (factorB e E F) (factorB e' E' F') :=
 Loc.tok (α := Ex) (Q := fun t l i => if t.kind = 2 then .ok (.mk 2 t.num [] [] t.at_) (l.drop 1) i
   else if t.kind = 3 then .ok (.mk 3 0 t.text [] t.at_) (l.drop 1) i
   else if t.kind = 1 then if t.text = [95] then .ok (.mk 4 0 [] [] t.at_) (l.drop 1) i else (wordQ e l i).map fun w => .mk 1 0 w [] t.at_
   else signed e E F l i)
  (Q' := fun t l i => if t.kind = 2 then .ok (.mk 2 t.num [] [] t.at_) (l.drop 1) i
   else if t.kind = 3 then .ok (.mk 3 0 t.text [] t.at_) (l.drop 1) i
   else if t.kind = 1 then if t.text = [95] then .ok (.mk 4 0 [] [] t.at_) (l.drop 1) i else (wordQ e' l i).map fun w => .mk 1 0 w [] t.at_
   else signed e' E' F' l i)
  (fun _ => Loc.ite (loc_ok1 _) (Loc.ite (loc_ok1 _) (Loc.ite (Loc.ite (loc_ok1 _) (Loc.map _ loc_word)) (loc_signed hE hF))))
theorem loc_ex : ∀ d, Loc e (exD e d).1 (exD e' d).1 ∧ Loc e (exD e d).2 (exD e' d).2
 | 0 => ⟨loc_refuse 4, loc_refuse 4⟩
 | d + 1 => ⟨loc_joined (by decide) (loc_joined (by decide) (loc_ex d).2), loc_factor (loc_ex d).1 (loc_ex d).2⟩
theorem loc_atom (d : Nat) : Loc e (atomP e d) (atomP e' d) :=
 Loc.tok (α := Atm) (Q := fun t l i => (nmQ e l i).bind fun n l2 i => (encl e [40] [41] (exD e d).1 l2 i).map fun xs => ⟨n, xs, t.at_⟩) (Q' := fun t l i => (nmQ e' l i).bind fun n l2 i => (encl e' [40] [41] (exD e' d).1 l2 i).map fun xs => ⟨n, xs, t.at_⟩)
  (fun _ => Loc.bind loc_nm (fun _ => Loc.map _ (loc_encl (loc_ex d).1)))
def cnT (t u : Tok) : Bool := decide (t.kind = 1) && decide (u.kind = 4) && decide (u.text = [40])
theorem loc_lit (d : Nat) : Loc e (litP e d) (litP e' d) :=
 Loc.tok2 (α := Lt) (Q := fun t u l i => if sgT t = [33] then (atomP e d (l.drop 1) i).map fun a => ⟨2, a, [], .none, .none, t.at_⟩
   else if cnT t u = true then (atomP e d l i).map fun a => ⟨1, a, [], .none, .none, t.at_⟩
   else ((exD e d).1 l i).bind fun x l2 i => (choose e [[61], [33, 61], [60], [60, 61], [62], [62, 61]] l2 i).bind fun o l3 i => ((exD e d).1 l3 i).map fun y => ⟨3, .none, o, x, y, t.at_⟩)
  (Q' := fun t u l i => if sgT t = [33] then (atomP e' d (l.drop 1) i).map fun a => ⟨2, a, [], .none, .none, t.at_⟩
   else if cnT t u = true then (atomP e' d l i).map fun a => ⟨1, a, [], .none, .none, t.at_⟩
   else ((exD e' d).1 l i).bind fun x l2 i => (choose e' [[61], [33, 61], [60], [60, 61], [62], [62, 61]] l2 i).bind fun o l3 i => ((exD e' d).1 l3 i).map fun y => ⟨3, .none, o, x, y, t.at_⟩)
  (fun _ _ => Loc.ite (Loc.map _ (loc_atom d).drop1) (Loc.ite (Loc.map _ (loc_atom d)) (Loc.bind (loc_ex d).1 (fun _ => Loc.bind (loc_choose _) (fun _ => Loc.map _ (loc_ex d).1)))))
theorem loc_clause (d : Nat) : Loc e (clauseP e d) (clauseP e' d) :=
 Loc.tok (α := Cls) (Q := fun t l i => (atomP e d l i).bind fun h l2 i => if sgn e l2 = [58, 45] then (listP e [44] 16 (litP e d) (l2.drop 1) i).bind fun b l3 i => (want e [46] l3 i).map fun _ => ⟨h, b, t.at_⟩ else (want e [46] l2 i).map fun _ => ⟨h, [], t.at_⟩)
  (Q' := fun t l i => (atomP e' d l i).bind fun h l2 i => if sgn e' l2 = [58, 45] then (listP e' [44] 16 (litP e' d) (l2.drop 1) i).bind fun b l3 i => (want e' [46] l3 i).map fun _ => ⟨h, b, t.at_⟩ else (want e' [46] l2 i).map fun _ => ⟨h, [], t.at_⟩)
  (fun t => Loc.bind (loc_atom d) (fun h => Loc.tok (α := Cls) (Q := fun u l2 i => if sgT u = [58, 45] then (listP e [44] 16 (litP e d) (l2.drop 1) i).bind fun b l3 i => (want e [46] l3 i).map fun _ => ⟨h, b, t.at_⟩ else (want e [46] l2 i).map fun _ => ⟨h, [], t.at_⟩)
   (Q' := fun u l2 i => if sgT u = [58, 45] then (listP e' [44] 16 (litP e' d) (l2.drop 1) i).bind fun b l3 i => (want e' [46] l3 i).map fun _ => ⟨h, b, t.at_⟩ else (want e' [46] l2 i).map fun _ => ⟨h, [], t.at_⟩)
   (fun _ => Loc.ite (Loc.bind (loc_list (by decide) (loc_lit d)).drop1 (fun b => Loc.map (fun _ => (⟨h, b, t.at_⟩ : Cls)) (loc_want [46]))) (Loc.map (fun _ => (⟨h, [], t.at_⟩ : Cls)) (loc_want [46])))))
theorem loc_field : Loc e (fieldP e) (fieldP e') := Loc.bind loc_word (fun _ => Loc.bind (loc_want [58]) (fun _ => Loc.map _ loc_nm))
theorem loc_ctor : Loc e (ctorP e) (ctorP e') := Loc.bind loc_word (fun _ => Loc.map _ (loc_encl loc_field))
theorem loc_type : Loc e (typeP e) (typeP e') :=
 Loc.tok (α := Typ) (Q := fun t l i => (wordQ e (l.drop 1) i).bind fun n l2 i => (choose e [[60, 58], [61]] l2 i).bind fun s l3 i => if s = [60, 58] then (nmQ e l3 i).map fun c => ⟨n, c, [], t.at_⟩ else (listP e [124] noMost (ctorP e) l3 i).map fun cs => ⟨n, [], cs, t.at_⟩)
  (Q' := fun t l i => (wordQ e' (l.drop 1) i).bind fun n l2 i => (choose e' [[60, 58], [61]] l2 i).bind fun s l3 i => if s = [60, 58] then (nmQ e' l3 i).map fun c => ⟨n, c, [], t.at_⟩ else (listP e' [124] noMost (ctorP e') l3 i).map fun cs => ⟨n, [], cs, t.at_⟩)
  (fun _ => Loc.bind loc_word.drop1 (fun _ => Loc.bind (loc_choose _) (fun _ => Loc.ite (Loc.map _ loc_nm) (Loc.map _ (loc_list (by decide) loc_ctor)))))
theorem loc_init : Loc e (initP e) (initP e') :=
 Loc.tok (α := Ini) (Q := fun t l i => (wordQ e (l.drop 1) i).bind fun n l2 i => (want e [61] l2 i).bind fun _ l3 i => (nmQ e l3 i).map fun c => ⟨n, c, t.at_⟩)
  (Q' := fun t l i => (wordQ e' (l.drop 1) i).bind fun n l2 i => (want e' [61] l2 i).bind fun _ l3 i => (nmQ e' l3 i).map fun c => ⟨n, c, t.at_⟩)
  (fun _ => Loc.bind loc_word.drop1 (fun _ => Loc.bind (loc_want [61]) (fun _ => Loc.map _ loc_nm)))
theorem Agr.callN {n : Nat} {l l' : List Tok} (h : Agr n l l') (hn : 2 ≤ n) : callN e l = Go.Proofs.YtdjehbdpcdikkaaGreatDoor.callN e' l' := by
 unfold Go.Proofs.YtdjehbdpcdikkaaGreatDoor.callN
 rw [h.ahd (e := e) (e' := e') (k := 0) (by omega), h.ahd (e := e) (e' := e') (k := 1) (by omega)]
theorem loc_flagL : ∀ (f f' : Nat) (a b : Bool) (l l' : List Tok) (it n : Nat), l.length + 1 ≤ f → (2 ≤ n → l'.length + 1 ≤ f') → Agr n l l' → LocR e (flagL e f a b l it) (flagL e' f' a b l' it) l l' n := by
 intro f
 induction f with
 | zero => intro f' a b l l' it n h1; omega
 | succ f ih =>
  intro f' a b l l' it n h1 h2 ha
  have key : ∀ g, (2 ≤ n → l'.length + 1 ≤ g + 1) → LocR e (flagL e (f + 1) a b l it) (flagL e' (g + 1) a b l' it) l l' n := fun g hg => by
   unfold flagL
   refine LocR.next (fun hn => by rw [ha.ahd (e := e) (e' := e') (k := 0) (by omega), ha.callN (e := e) (e' := e') hn]) (fun hs => ?_) (fun _ => loc_ok _ _ _ _ _ ha)
   have hne : l ≠ [] := fun e0 => by
    have := hs.1
    rw [e0] at this
    simp [Go.Proofs.YtdjehbdpcdikkaaGreatDoor.ahd] at this
   have hl := drop_lt hne
   have go : ∀ a b, LocR e (flagL e f a b (l.drop 1) it) (flagL e' g a b (l'.drop 1) it) l l' n := fun a b => by
    by_cases hn1 : 1 ≤ n
    ·
     refine (ih g a b _ _ _ (n - 1) (by omega) (fun hm => ?_) (ha.drop hn1)).shift (fun _ => rfl)
     have := hg (by omega)
     rw [List.length_drop]
     have := ha.2.1
     omega
    · exact (ih g a b _ _ _ 0 (by omega) (fun h => by omega) (Agr.zero _ _)).shift (fun h => by omega)
   refine LocR.next (fun hn => by rw [ha.ahd (e := e) (e' := e') (k := 0) (by omega)]) (fun _ => go true b) (fun _ => ?_)
   exact LocR.next (fun hn => by rw [ha.ahd (e := e) (e' := e') (k := 0) (by omega)]) (fun _ => go a true) (fun _ => loc_ok _ _ _ _ _ ha)
  cases f' with
  | zero => exact (key 0 (fun h => by have := h2 h; omega)).congr (fun hn => by have := h2 hn; omega)
  | succ g => exact key g h2
theorem loc_flags : Loc e (fun l i => flagL e (l.length + 1) false false l i) (fun l i => flagL e' (l.length + 1) false false l i) := fun _ _ _ _ h => loc_flagL _ _ _ _ _ _ _ _ (Nat.le_refl _) (fun _ => Nat.le_refl _) h
theorem loc_decl : Loc e (declP e) (declP e') :=
 Loc.tok (α := Dcl) (Q := fun t l i => (wordQ e (l.drop 1) i).bind fun n l2 i => (encl e [40] [41] (fieldP e) l2 i).bind fun cs l3 i => (flagL e (l3.length + 1) false false l3 i).map fun p => ⟨n, cs, p.1, p.2, t.at_⟩)
  (Q' := fun t l i => (wordQ e' (l.drop 1) i).bind fun n l2 i => (encl e' [40] [41] (fieldP e') l2 i).bind fun cs l3 i => (flagL e' (l3.length + 1) false false l3 i).map fun p => ⟨n, cs, p.1, p.2, t.at_⟩)
  (fun _ => Loc.bind loc_word.drop1 (fun _ => Loc.bind (loc_encl loc_field) (fun _ => Loc.map _ loc_flags)))
theorem loc_comp {B B' : Pr Pg} (hB : Loc e B B') : Loc e (compB e B) (compB e' B') :=
 Loc.tok (α := Txt × List Txt × Pg × Int) (Q := fun t l i => (wordQ e (l.drop 1) i).bind fun n l2 i =>
   (if sgn e l2 = [58] then listP e [44] noMost (nmQ e) (l2.drop 1) i else .ok [] l2 i).bind fun bs l3 i =>
    (want e [123] l3 i).bind fun _ l4 i => (B l4 i).bind fun p l5 i => (want e [125] l5 i).map fun _ => (n, bs, p, (t.at_ : Int)))
  (Q' := fun t l i => (wordQ e' (l.drop 1) i).bind fun n l2 i =>
   (if sgn e' l2 = [58] then listP e' [44] noMost (nmQ e') (l2.drop 1) i else .ok [] l2 i).bind fun bs l3 i =>
    (want e' [123] l3 i).bind fun _ l4 i => (B' l4 i).bind fun p l5 i => (want e' [125] l5 i).map fun _ => (n, bs, p, (t.at_ : Int)))
  (fun t => Loc.bind loc_word.drop1 (fun n => Loc.bind
   (Loc.tok (α := List Txt) (Q := fun u l2 i => if sgT u = [58] then listP e [44] noMost (nmQ e) (l2.drop 1) i else .ok [] l2 i) (Q' := fun u l2 i => if sgT u = [58] then listP e' [44] noMost (nmQ e') (l2.drop 1) i else .ok [] l2 i) (fun _ => Loc.ite (loc_list (by decide) loc_nm).drop1 (loc_ok _)))
   (fun bs => Loc.bind (loc_want [123]) (fun _ => Loc.bind hB (fun p => Loc.map (fun _ => (n, bs, p, (t.at_ : Int))) (loc_want [125]))))))
theorem loc_item {d : Nat} {C C' : Pr (Txt × List Txt × Pg × Int)} (hC : Loc e C C') (p : Pg) : Loc e (itemP e d C p) (itemP e' d C' p) := fun l l' it n ha => by
 have hs : 2 ≤ n → sgn e l = sgn e' l' := fun hn => ha.sgn (by omega)
 unfold itemP
 refine LocR.next (fun _ => Iff.rfl) (fun _ => .refuse ha) (fun _ => ?_)
 refine LocR.next (fun hn => by rw [hs hn]) (fun _ => (loc_type l l' (it + 1) n ha).map _) (fun _ => ?_)
 refine LocR.next (fun hn => by rw [hs hn]) (fun _ => (loc_decl l l' (it + 1) n ha).map _) (fun _ => ?_)
 refine LocR.next (fun hn => by rw [hs hn]) (fun _ => (hC l l' (it + 1) n ha).map _) (fun _ => ?_)
 refine LocR.next (fun hn => by rw [hs hn]) (fun _ => (loc_init l l' (it + 1) n ha).map _) (fun _ => ?_)
 exact (loc_clause d l l' (it + 1) n ha).map _
theorem loc_progL {d : Nat} {top : Bool} {C C' : Pr (Txt × List Txt × Pg × Int)} (hC : Loc e C C') (hG : GrS C) : ∀ (f f' : Nat) (p : Pg) (l l' : List Tok) (it n : Nat), l.length + 1 ≤ f → (2 ≤ n → l'.length + 1 ≤ f') → Agr n l l' → LocR e (progL e top d C f p l it) (progL e' top d C' f' p l' it) l l' n := by
 intro f
 induction f with
 | zero => intro f' p l l' it n h1; omega
 | succ f ih =>
  intro f' p l l' it n h1 h2 ha
  have key : ∀ g, (2 ≤ n → l'.length + 1 ≤ g + 1) → LocR e (progL e top d C (f + 1) p l it) (progL e' top d C' (g + 1) p l' it) l l' n := fun g hg => by
   unfold progL
   refine LocR.next (fun hn => by unfold isEnd; rw [ha.ahd (e := e) (e' := e') (k := 0) (by omega)]) (fun _ => loc_ok _ _ _ _ _ ha) (fun _ => ?_)
   have hI := loc_item (e' := e') (d := d) hC p l l' it n ha
   refine LocR.bind ha hI (fun q c i m hq hm hagr => ih g _ _ _ _ _ ?_ (fun hm2 => ?_) hagr)
   ·
    have := (item_gr hG hq).1
    omega
   ·
    have hc : c + 2 ≤ n := by omega
    rw [hq] at hI
    obtain ⟨c2, k1, k2⟩ := hI
    have hg2 := hg (by omega)
    have h4 := hagr.2.1
    have hlc : (l.drop c).length < l.length := (item_gr hG hq).1
    simp only [List.length_drop] at h4 hlc ⊢
    have := ha.2.1
    omega
  cases f' with
  | zero => exact (key 0 (fun h => by have := h2 h; omega)).congr (fun hn => by have := h2 hn; omega)
  | succ g => exact key g h2
theorem loc_compC : ∀ d, Loc e (compC e d) (compC e' d)
 | 0 => loc_refuse 4
 | d + 1 => loc_comp (fun l l' it n ha => by
  rw [progD_eq, progD_eq]
  exact loc_progL (loc_compC d) (compC_gr d) _ _ _ _ _ _ _ (Nat.le_refl _) (fun _ => Nat.le_refl _) ha)
end
end Go.Proofs.YtdjehbdpcdikkaaGreatDoor
