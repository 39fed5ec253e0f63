/- The plain reading: places turn nothing but places. The tokens of a written text: signs, names, numbers, texts. The tokens of a written text: other signs, expressions. -/
import Derived.Test.YtccehgfecaamoaaGreatDoorQb29
set_option maxRecDepth 100000
set_option maxHeartbeats 32000000
namespace Go.Proofs.YtccehgfecaamoaaGreatDoor
section
def zt (t : Tok) : Int × Txt × Int := (t.kind, t.text, t.num)
def Alk (l l' : List Tok) : Prop := l.map zt = l'.map zt
theorem Alk.len {l l' : List Tok} (h : Alk l l') : l.length = l'.length := by have := congrArg List.length h; simpa using this
theorem Alk.drop {l l' : List Tok} (h : Alk l l') (n : Nat) : Alk (l.drop n) (l'.drop n) := by unfold Alk at *; rw [List.map_drop, List.map_drop, h]
theorem Alk.ahd {l l' : List Tok} (h : Alk l l') (e e' k : Nat) : zt (ahd e k l) = zt (ahd e' k l') := by
 have h1 : (l.map zt)[k]? = (l'.map zt)[k]? := by rw [h]
 rw [List.getElem?_map, List.getElem?_map] at h1
 unfold Go.Proofs.YtccehgfecaamoaaGreatDoor.ahd
 rw [List.getD_eq_getElem?_getD, List.getD_eq_getElem?_getD]
 cases h2 : l[k]? with
 | none =>
  rw [h2] at h1
  cases h3 : l'[k]? with
  | none => rfl
  | some y => rw [h3] at h1; cases h1
 | some x =>
  rw [h2] at h1
  cases h3 : l'[k]? with
  | none => rw [h3] at h1; cases h1
  | some y => rw [h3] at h1; simpa using h1
section
variable {α β : Type} {e e' : Nat}
def AlR (r : α → α → Prop) : Rs α → Rs α → Prop
 | .ok x l i, .ok y m j => r x y ∧ Alk l m ∧ i = j
 | .bad w _ l, .bad v _ m => w = v ∧ Alk l m
 | _, _ => False
def Al (r : α → α → Prop) (P P' : Pr α) : Prop := ∀ l l' it, Alk l l' → AlR r (P l it) (P' l' it)
theorem AlR.bind {r : α → α → Prop} {q : β → β → Prop} {R R' : Rs α} {f f' : α → Pr β} (h : AlR r R R') (hf : ∀ x y l m i, r x y → Alk l m → AlR q (f x l i) (f' y m i)) : AlR q (R.bind f) (R'.bind f') := by
 cases R with
 | bad w a l =>
  cases R' with
  | bad v b m => exact h
  | ok y m j => exact h.elim
 | ok x l i =>
  cases R' with
  | bad v b m => exact h.elim
  | ok y m j =>
   obtain ⟨h1, h2, rfl⟩ := h
   exact hf x y l m i h1 h2
theorem AlR.map {r : α → α → Prop} {q : β → β → Prop} {R R' : Rs α} {g g' : α → β} (h : AlR r R R') (hg : ∀ x y, r x y → q (g x) (g' y)) : AlR q (R.map g) (R'.map g') := by
 cases R with
 | bad w a l =>
  cases R' with
  | bad v b m => exact h
  | ok y m j => exact h.elim
 | ok x l i =>
  cases R' with
  | bad v b m => exact h.elim
  | ok y m j => exact ⟨hg x y h.1, h.2⟩
theorem AlR.refuse {r : α → α → Prop} {why : Int} {l l' : List Tok} {it : Nat} (h : Alk l l') : AlR r (refuse e why l it) (refuse e' why l' it) := ⟨rfl, h⟩
theorem AlR.ite {r : α → α → Prop} {p p' : Prop} [Decidable p] [Decidable p'] {A A' B B' : Rs α} (hp : p ↔ p') (hA : p → AlR r A A') (hB : ¬ p → AlR r B B') : AlR r (if p then A else B) (if p' then A' else B') := by
 by_cases h : p
 · rw [if_pos h, if_pos (hp.1 h)]; exact hA h
 · rw [if_neg h, if_neg (fun h' => h (hp.2 h'))]; exact hB h
theorem Alk.kind {l l' : List Tok} (h : Alk l l') (e e' k : Nat) : (Go.Proofs.YtccehgfecaamoaaGreatDoor.ahd e k l).kind = (Go.Proofs.YtccehgfecaamoaaGreatDoor.ahd e' k l').kind := congrArg (·.1) (h.ahd e e' k)
theorem Alk.text {l l' : List Tok} (h : Alk l l') (e e' k : Nat) : (Go.Proofs.YtccehgfecaamoaaGreatDoor.ahd e k l).text = (Go.Proofs.YtccehgfecaamoaaGreatDoor.ahd e' k l').text := congrArg (·.2.1) (h.ahd e e' k)
theorem Alk.num {l l' : List Tok} (h : Alk l l') (e e' k : Nat) : (Go.Proofs.YtccehgfecaamoaaGreatDoor.ahd e k l).num = (Go.Proofs.YtccehgfecaamoaaGreatDoor.ahd e' k l').num := congrArg (·.2.2) (h.ahd e e' k)
theorem Alk.sgn {l l' : List Tok} (h : Alk l l') (e e' : Nat) : Go.Proofs.YtccehgfecaamoaaGreatDoor.sgn e l = Go.Proofs.YtccehgfecaamoaaGreatDoor.sgn e' l' := by
 unfold Go.Proofs.YtccehgfecaamoaaGreatDoor.sgn
 rw [h.kind e e' 0, h.text e e' 0]
theorem Alk.callN {l l' : List Tok} (h : Alk l l') (e e' : Nat) : Go.Proofs.YtccehgfecaamoaaGreatDoor.callN e l = Go.Proofs.YtccehgfecaamoaaGreatDoor.callN e' l' := by
 unfold Go.Proofs.YtccehgfecaamoaaGreatDoor.callN
 rw [h.kind e e' 0, h.kind e e' 1, h.text e e' 1]
theorem Alk.isW {l l' : List Tok} (h : Alk l l') (e e' : Nat) : isW1 (Go.Proofs.YtccehgfecaamoaaGreatDoor.ahd e 0 l) = isW1 (Go.Proofs.YtccehgfecaamoaaGreatDoor.ahd e' 0 l') := by
 unfold isW1
 rw [h.kind e e' 0, h.text e e' 0]
theorem Qen (s : Txt) : Al (fun _ _ => True) (want e s) (want e' s) := fun l l' it h => by
 unfold want
 exact AlR.ite (by rw [h.sgn e e']) (fun _ => ⟨trivial, h.drop 1, rfl⟩) (fun _ => .refuse h)
theorem Qhy (ss : List Txt) : Al Eq (choose e ss) (choose e' ss) := fun l l' it h => by
 unfold choose
 exact AlR.ite (by rw [h.sgn e e']) (fun _ => ⟨h.text e e' 0, h.drop 1, rfl⟩) (fun _ => .refuse h)
theorem Qui : Al Eq (nmQ e) (nmQ e') := fun l l' it h => by
 unfold nmQ
 exact AlR.ite (by rw [h.kind e e' 0]) (fun _ => ⟨h.text e e' 0, h.drop 1, rfl⟩) (fun _ => .refuse h)
theorem Qey : Al Eq (wordQ e) (wordQ e') := fun l l' it h => by
 unfold wordQ
 exact AlR.ite (by rw [h.isW e e']) (fun _ => ⟨h.text e e' 0, h.drop 1, rfl⟩) (fun _ => .refuse h)
inductive All2 (r : α → α → Prop) : List α → List α → Prop
 | nil : All2 r [] []
 | cons {x y : α} {xs ys : List α} : r x y → All2 r xs ys → All2 r (x :: xs) (y :: ys)
theorem All2.len {r : α → α → Prop} {xs ys : List α} (h : All2 r xs ys) : xs.length = ys.length := by
 induction h with
 | nil => rfl
 | cons _ _ ih => simp [ih]
theorem All2.snoc {r : α → α → Prop} {xs ys : List α} {x y : α} (h : All2 r xs ys) (hx : r x y) : All2 r (xs ++ [x]) (ys ++ [y]) := by
 induction h with
 | nil => exact .cons hx .nil
 | cons h1 _ ih => exact .cons h1 ih
theorem All2.eqL {eq : α → α → Bool} {xs ys : List α} (h : All2 (fun x y => eq x y = true) xs ys) : eqL eq xs ys = true := by
 induction h with
 | nil => simp [Go.Proofs.YtccehgfecaamoaaGreatDoor.eqL]
 | cons h1 _ ih => rw [Qda, h1, ih]; rfl
theorem Qqd {r : α → α → Prop} {sep : Txt} {most : Nat} {P P' : Pr α} (hP : Al r P P') : ∀ (f : Nat) (acc acc' : List α), All2 r acc acc' → Al (All2 r) (listL e sep most P f acc) (listL e' sep most P' f acc')
 | 0, _, _, ha => fun _ _ _ h => ⟨ha, h, rfl⟩
 | f + 1, acc, acc', ha => fun l l' it h => by
  unfold listL
  refine AlR.ite (by rw [ha.len]) (fun _ => .refuse h) (fun _ => ?_)
  refine AlR.bind (hP l l' it h) (fun x y l m i hx hl => ?_)
  exact AlR.ite (by rw [hl.sgn e e']) (fun _ => Qqd hP f _ _ (ha.snoc hx) _ _ _ (hl.drop 1)) (fun _ => ⟨ha.snoc hx, hl, rfl⟩)
theorem Qki {r : α → α → Prop} {sep : Txt} {most : Nat} {P P' : Pr α} (hP : Al r P P') : Al (All2 r) (listP e sep most P) (listP e' sep most P') := fun l l' it h => by
 unfold listP
 rw [h.len]
 exact Qqd hP _ _ _ .nil _ _ _ h
theorem Qkg {r : α → α → Prop} {op cl : Txt} {P P' : Pr α} (hP : Al r P P') : Al (All2 r) (encl e op cl P) (encl e' op cl P') := fun l l' it h => by
 unfold encl
 refine AlR.bind (Qen op l l' it h) (fun _ _ l m i _ hl => ?_)
 refine AlR.ite (by rw [hl.sgn e e']) (fun _ => ⟨.nil, hl.drop 1, rfl⟩) (fun _ => ?_)
 exact AlR.bind (Qki hP _ _ _ hl) (fun xs ys _ _ _ hx h2 => AlR.map (Qen cl _ _ _ h2) (fun _ _ _ => hx))
end
section
variable {e e' : Nat}
abbrev rE (x y : Ex) : Prop := eqE x y = true
theorem Qir {k n a b : Int} {s : Txt} {xs ys : List Ex} (h : All2 rE xs ys) : rE (.mk k n s xs a) (.mk k n s ys b) := by
 show eqE _ _ = true
 rw [Qqr]
 simp [Ex.kind, Ex.num, Ex.txt, Ex.kids, h.eqL]
theorem rE_num {x y : Ex} (h : rE x y) : x.num = y.num := by
 have h1 : eqE x y = true := h
 rw [Qqr] at h1
 simp only [Bool.and_eq_true, decide_eq_true_eq] at h1
 exact h1.1.1.2
theorem rE_op {s : Txt} {x y x' y' : Ex} (h1 : rE x x') (h2 : rE y y') : rE (opE s x y) (opE s x' y') := Qir (.cons h1 (.cons h2 .nil))
theorem Qqc {ss : List Txt} {P P' : Pr Ex} (hP : Al rE P P') : ∀ (f : Nat) (x y : Ex), rE x y → Al rE (joinL e P ss f x) (joinL e' P' ss f y)
 | 0, _, _, hx => fun _ _ _ h => ⟨hx, h, rfl⟩
 | f + 1, x, y, hx => fun l l' it h => by
  unfold joinL
  refine AlR.ite (by rw [h.sgn e e']) (fun _ => ?_) (fun _ => ⟨hx, h, rfl⟩)
  refine AlR.bind (hP _ _ it (h.drop 1)) (fun u v l m i hu hl => ?_)
  rw [h.text e e' 0]
  exact Qqc hP f _ _ (rE_op hx hu) _ _ _ hl
theorem Qma {ss : List Txt} {P P' : Pr Ex} (hP : Al rE P P') : Al rE (joined e P ss) (joined e' P' ss) := fun l l' it h => by
 unfold joined
 refine AlR.bind (hP l l' it h) (fun x y l m i hx hl => ?_)
 rw [hl.len]
 exact Qqc hP _ _ _ hx _ _ _ hl
theorem Quj {E E' F F' : Pr Ex} (hE : Al rE E E') (hF : Al rE F F') : Al rE (signed e E F) (signed e' E' F') := fun l l' it h => by
 unfold signed
 refine AlR.bind (Qhy _ l l' it h) (fun s s' l2 m i hs hl => ?_)
 subst hs
 refine AlR.ite Iff.rfl (fun _ => ?_) (fun _ => ?_)
 ·
  refine AlR.map (hF _ _ _ hl) (fun x y hx => ?_)
  rw [hl.kind e e' 0]
  by_cases hk : (ahd e' 0 m).kind = 2
  · rw [if_pos hk, if_pos hk, rE_num hx]; exact Qir .nil
  · rw [if_neg hk, if_neg hk]; exact rE_op (Qir .nil) hx
 refine AlR.ite Iff.rfl (fun _ => ?_) (fun _ => ?_)
 · exact AlR.bind (hE _ _ _ hl) (fun x y _ _ _ hx h2 => AlR.map (Qen [41] _ _ _ h2) (fun _ _ _ => hx))
 refine AlR.bind (Qey _ _ _ hl) (fun w w' _ _ _ hw h2 => ?_)
 subst hw
 exact AlR.map (Qkg hE _ _ _ h2) (fun xs ys hx => Qir hx)
theorem Quh {E E' F F' : Pr Ex} (hE : Al rE E E') (hF : Al rE F F') : Al rE (factorB e E F) (factorB e' E' F') := fun l l' it h => by
 unfold factorB
 rw [h.kind e e' 0, h.num e e' 0, h.text e e' 0]
 refine AlR.ite Iff.rfl (fun _ => ⟨Qir .nil, h.drop 1, rfl⟩) (fun _ => AlR.ite Iff.rfl (fun _ => ⟨Qir .nil, h.drop 1, rfl⟩) (fun _ => AlR.ite Iff.rfl (fun _ => AlR.ite Iff.rfl (fun _ => ⟨Qir .nil, h.drop 1, rfl⟩) (fun _ => ?_)) (fun _ => Quj hE hF _ _ _ h)))
 exact AlR.map (Qey _ _ _ h) (fun w w' hw => by subst hw; exact Qir .nil)
theorem Qsk : ∀ d, Al rE (exD e d).1 (exD e' d).1 ∧ Al rE (exD e d).2 (exD e' d).2
 | 0 => ⟨fun _ _ it h => AlR.refuse (it := it) h, fun _ _ it h => AlR.refuse (it := it) h⟩
 | d + 1 => ⟨Qma (Qma (Qsk d).2), Quh (Qsk d).1 (Qsk d).2⟩
abbrev rA (x y : Atm) : Prop := eqA x y = true
theorem Qoh (d : Nat) : Al rA (atomP e d) (atomP e' d) := fun l l' it h => by
 unfold atomP
 refine AlR.bind (Qui _ _ _ h) (fun n n' _ _ _ hn h2 => ?_)
 subst hn
 exact AlR.map (Qkg (Qsk d).1 _ _ _ h2) (fun xs ys hx => by unfold rA eqA; simp [hx.eqL])
abbrev rLt (x y : Lt) : Prop := eqLt x y = true
theorem Qxz : eqE .none .none = true := Qir .nil
theorem rA_none : eqA .none .none = true := by unfold eqA; simp [Atm.none, eqL]
theorem al_lit (d : Nat) : Al rLt (litP e d) (litP e' d) := fun l l' it h => by
 unfold litP
 refine AlR.ite (by rw [h.sgn e e']) (fun _ => ?_) (fun _ => AlR.ite (by rw [h.callN e e']) (fun _ => ?_) (fun _ => ?_))
 · exact AlR.map (Qoh d _ _ _ (h.drop 1)) (fun x y hx => by unfold rLt eqLt; simp [show eqA x y = true from hx, Qxz])
 · exact AlR.map (Qoh d _ _ _ h) (fun x y hx => by unfold rLt eqLt; simp [show eqA x y = true from hx, Qxz])
 refine AlR.bind ((Qsk d).1 _ _ _ h) (fun x y _ _ _ hx h2 => ?_)
 refine AlR.bind (Qhy _ _ _ _ h2) (fun o o' _ _ _ ho h3 => ?_)
 subst ho
 exact AlR.map ((Qsk d).1 _ _ _ h3) (fun u v hu => by unfold rLt eqLt; simp [show eqE x y = true from hx, show eqE u v = true from hu, rA_none])
abbrev rC (x y : Cls) : Prop := eqCl x y = true
theorem Qug (d : Nat) : Al rC (clauseP e d) (clauseP e' d) := fun l l' it h => by
 unfold clauseP
 refine AlR.bind (Qoh d _ _ _ h) (fun x y _ _ _ hx h2 => ?_)
 refine AlR.ite (by rw [h2.sgn e e']) (fun _ => ?_) (fun _ => ?_)
 ·
  refine AlR.bind (Qki (al_lit d) _ _ _ (h2.drop 1)) (fun b b' _ _ _ hb h3 => ?_)
  exact AlR.map (Qen [46] _ _ _ h3) (fun _ _ _ => by unfold rC eqCl; simp [show eqA x y = true from hx, hb.eqL])
 · exact AlR.map (Qen [46] _ _ _ h2) (fun _ _ _ => by unfold rC eqCl; simp [show eqA x y = true from hx, eqL])
abbrev rF (x y : Fld) : Prop := eqFd x y = true
theorem Qqb : Al rF (fieldP e) (fieldP e') := fun l l' it h => by
 unfold fieldP
 refine AlR.bind (Qey _ _ _ h) (fun n n' _ _ _ hn h2 => ?_)
 refine AlR.bind (Qen [58] _ _ _ h2) (fun _ _ _ _ _ _ h3 => ?_)
 exact AlR.map (Qui _ _ _ h3) (fun t t' ht => by unfold rF eqFd; simp [hn, ht])
theorem al_ctor : Al (fun x y => eqCt x y = true) (ctorP e) (ctorP e') := fun l l' it h => by
 unfold ctorP
 refine AlR.bind (Qey _ _ _ h) (fun n n' _ _ _ hn h2 => ?_)
 exact AlR.map (Qkg Qqb _ _ _ h2) (fun xs ys hx => by unfold eqCt; simp [hn, hx.eqL])
theorem al_type : Al (fun x y => eqTy x y = true) (typeP e) (typeP e') := fun l l' it h => by
 unfold typeP
 refine AlR.bind (Qey _ _ _ (h.drop 1)) (fun n n' _ _ _ hn h2 => ?_)
 refine AlR.bind (Qhy _ _ _ _ h2) (fun s s' _ _ _ hs h3 => ?_)
 subst hs
 refine AlR.ite Iff.rfl (fun _ => ?_) (fun _ => ?_)
 · exact AlR.map (Qui _ _ _ h3) (fun t t' ht => by unfold eqTy; simp [hn, ht, eqL])
 · exact AlR.map (Qki al_ctor _ _ _ h3) (fun xs ys hx => by unfold eqTy; simp [hn, hx.eqL])
theorem Qkh : ∀ (f : Nat) (a b : Bool), Al Eq (flagL e f a b) (flagL e' f a b)
 | 0, _, _ => fun _ _ _ h => ⟨rfl, h, rfl⟩
 | f + 1, a, b => fun l l' it h => by
  unfold flagL
  rw [h.kind e e' 0, h.callN e e', h.text e e' 0]
  exact AlR.ite Iff.rfl (fun _ => AlR.ite Iff.rfl (fun _ => Qkh f _ _ _ _ _ (h.drop 1)) (fun _ => AlR.ite Iff.rfl (fun _ => Qkh f _ _ _ _ _ (h.drop 1)) (fun _ => ⟨rfl, h, rfl⟩))) (fun _ => ⟨rfl, h, rfl⟩)
theorem al_decl : Al (fun x y => eqDc x y = true) (declP e) (declP e') := fun l l' it h => by
 unfold declP
 refine AlR.bind (Qey _ _ _ (h.drop 1)) (fun n n' _ _ _ hn h2 => ?_)
 refine AlR.bind (Qkg Qqb _ _ _ h2) (fun xs ys _ _ _ hx h3 => ?_)
 rw [h3.len]
 exact AlR.map (Qkh _ _ _ _ _ _ h3) (fun p q hp => by subst hp; unfold eqDc; simp [hn, hx.eqL])
theorem al_init : Al (fun x y => eqIn x y = true) (initP e) (initP e') := fun l l' it h => by
 unfold initP
 refine AlR.bind (Qey _ _ _ (h.drop 1)) (fun n n' _ _ _ hn h2 => ?_)
 refine AlR.bind (Qen [61] _ _ _ h2) (fun _ _ _ _ _ _ h3 => ?_)
 exact AlR.map (Qui _ _ _ h3) (fun t t' ht => by unfold eqIn; simp [hn, ht])
theorem Quk {xs ys : List Txt} (h : All2 Eq xs ys) : eqL eqTx xs ys = true := by
 induction h with
 | nil => simp [eqL]
 | cons h1 _ ih => rw [Qda, ih]; unfold eqTx; simp [h1]
theorem al_comp {B B' : Pr Pg} (hB : Al (fun x y => eqPg x y = true) B B') : Al (fun x y => eqCp x y = true) (compB e B) (compB e' B') := fun l l' it h => by
 unfold compB
 refine AlR.bind (Qey _ _ _ (h.drop 1)) (fun n n' l2 m2 _ hn h2 => ?_)
 refine AlR.bind (r := All2 Eq) (AlR.ite (by rw [h2.sgn e e']) (fun _ => Qki Qui _ _ _ (h2.drop 1)) (fun _ => ⟨.nil, h2, rfl⟩)) (fun bs bs' _ _ _ hb h3 => ?_)
 refine AlR.bind (Qen [123] _ _ _ h3) (fun _ _ _ _ _ _ h4 => ?_)
 refine AlR.bind (hB _ _ _ h4) (fun p q _ _ _ hp h5 => ?_)
 exact AlR.map (Qen [125] _ _ _ h5) (fun _ _ _ => by unfold eqCp; simp [hn, Quk hb, hp])
structure rP (p q : Pg) : Prop where
 t : All2 (fun x y => eqTy x y = true) p.types q.types
 d : All2 (fun x y => eqDc x y = true) p.decls q.decls
 c : All2 (fun x y => eqCp x y = true) p.comps q.comps
 i : All2 (fun x y => eqIn x y = true) p.inits q.inits
 l : All2 (fun x y => eqCl x y = true) p.clauses q.clauses
theorem rP.eq {p q : Pg} (h : rP p q) : eqPg p q = true := by rw [Qcx, h.t.eqL, h.d.eqL, h.c.eqL, h.i.eqL, h.l.eqL]; rfl
theorem al_item {d : Nat} {C C' : Pr Cp} (hC : Al (fun x y => eqCp x y = true) C C') {p q : Pg} (hp : rP p q) : Al rP (itemP e d C p) (itemP e' d C' q) := fun l l' it h => by
 unfold itemP
 rw [h.sgn e e']
 refine AlR.ite Iff.rfl (fun _ => .refuse h) (fun _ => AlR.ite Iff.rfl (fun _ => ?_) (fun _ => AlR.ite Iff.rfl (fun _ => ?_) (fun _ => AlR.ite Iff.rfl (fun _ => ?_) (fun _ => AlR.ite Iff.rfl (fun _ => ?_) (fun _ => ?_)))))
 · exact AlR.map (al_type _ _ _ h) (fun x y hx => ⟨hp.t.snoc hx, hp.d, hp.c, hp.i, hp.l⟩)
 · exact AlR.map (al_decl _ _ _ h) (fun x y hx => ⟨hp.t, hp.d.snoc hx, hp.c, hp.i, hp.l⟩)
 · exact AlR.map (hC _ _ _ h) (fun x y hx => ⟨hp.t, hp.d, hp.c.snoc hx, hp.i, hp.l⟩)
 · exact AlR.map (al_init _ _ _ h) (fun x y hx => ⟨hp.t, hp.d, hp.c, hp.i.snoc hx, hp.l⟩)
 · exact AlR.map (Qug d _ _ _ h) (fun x y hx => ⟨hp.t, hp.d, hp.c, hp.i, hp.l.snoc hx⟩)
theorem Alk.isEnd {l l' : List Tok} (h : Alk l l') (e e' : Nat) (top : Bool) : isEnd e top l = Go.Proofs.YtccehgfecaamoaaGreatDoor.isEnd e' top l' := by
 unfold Go.Proofs.YtccehgfecaamoaaGreatDoor.isEnd
 rw [h.kind e e' 0, h.text e e' 0]
theorem Qkj {d : Nat} {top : Bool} {C C' : Pr Cp} (hC : Al (fun x y => eqCp x y = true) C C') : ∀ (f : Nat) (p q : Pg), rP p q → Al rP (progL e top d C f p) (progL e' top d C' f q)
 | 0, _, _, hp => fun _ _ _ h => ⟨hp, h, rfl⟩
 | f + 1, p, q, hp => fun l l' it h => by
  unfold progL
  refine AlR.ite (by rw [h.isEnd e e']) (fun _ => ⟨hp, h, rfl⟩) (fun _ => ?_)
  exact AlR.bind (al_item hC hp _ _ _ h) (fun x y _ _ _ hx h2 => Qkj hC f _ _ hx _ _ _ h2)
theorem Qy : rP .none .none := ⟨.nil, .nil, .nil, .nil, .nil⟩
theorem AlR.imp {α : Type} {r q : α → α → Prop} {R R' : Rs α} (h : AlR r R R') (hq : ∀ x y, r x y → q x y) : AlR q R R' := by
 cases R with
 | bad w a l =>
  cases R' with
  | bad v b m => exact h
  | ok y m j => exact h.elim
 | ok x l i =>
  cases R' with
  | bad v b m => exact h.elim
  | ok y m j => exact ⟨hq x y h.1, h.2⟩
theorem Qqa : ∀ d, Al (fun x y => eqCp x y = true) (compC e d) (compC e' d)
 | 0 => fun _ _ it h => AlR.refuse (it := it) h
 | d + 1 => al_comp (fun l l' it h => by
  rw [Qdc, Qdc, h.len]
  exact (Qkj (Qqa d) _ _ _ Qy _ _ _ h).imp (fun _ _ h => h.eq))
theorem al_prog (d : Nat) (top : Bool) : Al rP (progD e d top) (progD e' d top) := fun l l' it h => by
 rw [Qdc, Qdc, h.len]
 exact Qkj (Qqa d) _ _ _ Qy _ _ _ h
end
end
section
def LxR (r : Txt) (ts : List Tok) : Prop := ∀ k, ∃ l, scan k r = .ok l ∧ Alk l ts
theorem lxr_nil : LxR [] [] := fun k => ⟨[], Qcs k, rfl⟩
theorem Qam {c : UInt8} {r : Txt} {ts : List Tok} (hc : isB (bv c) = true) (h : LxR r ts) : LxR (c :: r) ts := fun k => by
  obtain ⟨l, h1, h2⟩ := h (k + 1)
  refine ⟨l, ?_, h2⟩
  rw [Qfq (n := 1) (by rw [Qdp, hc]; rfl)]
  exact h1
def tk (kd : Int) (tx : Txt) (nm : Int) : Tok := ⟨kd, tx, nm, 0⟩
theorem Qe {u r : Txt} {ts : List Tok} {kd : Int} {tx : Txt} {nm : Int} (hg : gapAt (u ++ r) = .none) (ht : tokAt (u ++ r) = .tok kd tx nm u.length) (h : LxR r ts) : LxR (u ++ r) (tk kd tx nm :: ts) := fun k => by
  obtain ⟨l, h1, h2⟩ := h (k + u.length)
  refine ⟨⟨kd, tx, nm, k⟩ :: l, ?_, ?_⟩
  · rw [Qfr hg ht, List.drop_left, h1]; rfl
  · unfold Alk at *
    rw [List.map_cons, List.map_cons, h2]; rfl
theorem LxR.len {r : Txt} {ts : List Tok} (h : LxR r ts) (hl : r.length ≤ 65536) : ∃ l, lexP r = .ok l ∧ Alk l ts := by
  obtain ⟨l, h1, h2⟩ := h 0
  exact ⟨l, by unfold lexP; rw [if_neg (by omega)]; exact h1, h2⟩
def Stop (r : Txt) : Prop := noW r = true ∧ ∀ t, r = 46 :: t → wdLen t = 0
def Nm (s : Txt) : Prop := 0 < s.length ∧ s.length ≤ 64 ∧ nmLen s = s.length ∧ ∃ c t, s = c :: t ∧ isL (bv c) = true
theorem Qxo : ∀ {s r : Txt}, nmLen s = s.length → Stop r → nmLen (s ++ r) = s.length
  | [], r, _, hr => Jcv hr.1 hr.2
  | [c], r, hs, hr => by
    have hc : inW (bv c) = true := by
      unfold nmLen at hs
      split at hs
      · rename_i h; exact h
      · simp at hs
    rw [List.singleton_append, Qpa hc, Jcv hr.1 hr.2]; rfl
  | c :: d :: u, r, hs, hr => by
    unfold nmLen at hs
    split at hs
    · rename_i hc
      have h1 : nmLen (d :: u) = (d :: u).length := by simp only [List.length_cons] at hs ⊢; omega
      rw [List.cons_append, Qpa hc, Qxo h1 hr]; rfl
    · split at hs
      · rename_i hc h2
        obtain ⟨rfl, hl⟩ := h2
        have h1 : nmLen u = u.length := by simp only [List.length_cons] at hs ⊢; omega
        have hu : nmLen (u ++ r) = u.length := Qxo h1 hr
        rw [List.cons_append, List.cons_append, Qrg hl, hu]; rfl
      · simp at hs
theorem Qwo {c : UInt8} (h : isL (bv c) = true) : isB (bv c) = false ∧ c ≠ 47 := by
  have hc : (bv c = 95 ∨ (65 ≤ bv c ∧ bv c ≤ 90)) ∨ (97 ≤ bv c ∧ bv c ≤ 122) := by simpa [isL] using h
  refine ⟨?_, fun e => ?_⟩
  · simp only [isB, Bool.or_eq_false_iff, decide_eq_false_iff_not]; omega
  · subst e; simp only [bv] at hc; have : ((47 : UInt8).toNat : Int) = 47 := by decide
    omega
theorem Qgd {c : UInt8} {t : Txt} (h1 : isB (bv c) = false) (h2 : c ≠ 47) : gapAt (c :: t) = .none := by
  have e : (47 == c) = false := by simpa using fun e => h2 e.symm
  rw [Qdp, h1]
  simp [pre, Lib.hasPrefix, List.isPrefixOf, e]
theorem Qbf {s r : Txt} {ts : List Tok} (hs : Nm s) (hr : Stop r) (h : LxR r ts) : LxR (s ++ r) (tk 1 s 0 :: ts) := by
  obtain ⟨_, h64, hn, c, t, rfl, hc⟩ := hs
  obtain ⟨h1, h2⟩ := Qwo hc
  refine Qe (Qgd h1 h2) ?_ h
  have hl := Qxo hn hr
  show tokAt (c :: (t ++ r)) = _
  rw [Qbm, if_pos hc]
  unfold nmRes
  rw [show c :: (t ++ r) = (c :: t) ++ r from rfl, hl, if_neg (by omega), List.take_left]
def digs (l : List UInt8) : Prop := ∀ c ∈ l, 48 ≤ c.toNat ∧ c.toNat ≤ 57
theorem Ja (u : Nat) : digs (Lib.decDigits u) := by
  induction u using Nat.strongRecOn with
  | _ u ih =>
    intro c hc
    rw [Lib.decDigits] at hc
    split at hc
    · rename_i h
      simp only [List.mem_cons, List.not_mem_nil, or_false] at hc
      subst hc
      have : (UInt8.ofNat (48 + u)).toNat = 48 + u := by simp; omega
      omega
    · rcases List.mem_append.1 hc with h | h
      · exact ih _ (by omega) c h
      · simp only [List.mem_cons, List.not_mem_nil, or_false] at h
        subst h
        have : (UInt8.ofNat (48 + u % 10)).toNat = 48 + u % 10 := by simp; omega
        omega
def val10 : List UInt8 → Nat → Nat
  | [], a => a
  | c :: l, a => val10 l (a * 10 + (c.toNat - 48))
theorem Qoc : ∀ (l m : List UInt8) (a : Nat), val10 (l ++ m) a = val10 m (val10 l a)
  | [], _, _ => rfl
  | _ :: l, m, _ => Qoc l m _
theorem Qod (u : Nat) : val10 (Lib.decDigits u) 0 = u := by
  induction u using Nat.strongRecOn with
  | _ u ih =>
    rw [Lib.decDigits]
    split
    · rename_i h
      have : (UInt8.ofNat (48 + u)).toNat = 48 + u := by simp; omega
      simp only [val10, this]; omega
    · rw [Qoc, ih _ (by omega)]
      have : (UInt8.ofNat (48 + u % 10)).toNat = 48 + u % 10 := by simp; omega
      simp only [val10, this]; omega
theorem Jdk : ∀ (l : Txt) (a : Nat), vl a l = val10 l a
  | [], _ => rfl
  | _ :: l, _ => Jdk l _
theorem vl_dec (u : Nat) : vl 0 (Lib.decDigits u) = u := by rw [Jdk, Qod]
theorem Jco {c : UInt8} (h : 48 ≤ c.toNat ∧ c.toNat ≤ 57) : isD (bv c) = true := by
  unfold isD bv
  rw [Bool.and_eq_true]
  exact ⟨decide_eq_true (by omega), decide_eq_true (by omega)⟩
theorem isB_of {c : UInt8} (h : 48 ≤ c.toNat) : isB (bv c) = false := by
  unfold isB bv
  rw [decide_eq_false (by omega), decide_eq_false (by omega), decide_eq_false (by omega), decide_eq_false (by omega)]
  rfl
theorem Jaa (u : Nat) : ∃ c t, Lib.decDigits u = c :: t ∧ (c = 48 → t = []) := by
  induction u using Nat.strongRecOn with
  | _ u ih =>
    rw [Lib.decDigits]
    split
    · exact ⟨_, [], rfl, fun _ => rfl⟩
    · rename_i h
      obtain ⟨c, t, e, h2⟩ := ih (u / 10) (by omega)
      refine ⟨c, t ++ [UInt8.ofNat (48 + u % 10)], by rw [e]; rfl, fun hc => ?_⟩
      have ht := h2 hc
      subst ht
      subst hc
      have hv := Qod (u / 10)
      rw [e] at hv
      simp only [val10] at hv
      have h48 : (48 : UInt8).toNat = 48 := by decide
      rw [h48] at hv
      omega
theorem Quy : ∀ {l r : Txt}, digs l → noW r = true → dcn (l ++ r) = l.length
  | [], r, _, hr => by
    cases r with
    | nil => rfl
    | cons c t =>
      have : isD (bv c) = false := by
        cases hd : isD (bv c) with
        | false => rfl
        | true => simp [noW, inW_D hd] at hr
      simp [dcn, this]
  | c :: l, r, hl, hr => by
    have hd : isD (bv c) = true := Jco (hl c (by simp))
    have := Quy (l := l) (r := r) (fun d h => hl d (List.mem_cons_of_mem _ h)) hr
    simp [dcn, hd, this]
theorem Qxg {u : Nat} {r : Txt} {ts : List Tok} (hu : u ≤ 9223372036854775807) (hr : noW r = true) (h : LxR r ts) : LxR (Lib.decDigits u ++ r) (tk 2 [] (u : Int) :: ts) := by
  obtain ⟨c, t, e, h2⟩ := Jaa u
  have hdg := Ja u
  have hv := vl_dec u
  rw [e] at hdg hv ⊢
  have hc := hdg c (by simp)
  have hD : isD (bv c) = true := Jco hc
  have hB : isB (bv c) = false := isB_of hc.1
  have h47 : c ≠ 47 := fun e => by subst e; have : (47 : UInt8).toNat = 47 := by decide
                                   omega
  refine Qe (Qgd hB h47) ?_ h
  have hl : dgLen (c :: (t ++ r)) = (c :: t).length := by
    rw [Qfw]
    split
    · rename_i h0; rw [h2 h0]; rfl
    · exact Quy (l := c :: t) hdg hr
  show tokAt (c :: (t ++ r)) = _
  rw [Qbm, if_neg (by rw [isL_D hD]; simp), if_pos hD]
  unfold dgRes
  rw [hl, show c :: (t ++ r) = (c :: t) ++ r from rfl, List.drop_left, List.take_left, hv, if_neg (by rw [hr]; simp), if_neg (by omega)]
theorem Qoa {b : UInt8} {k : Nat} {v : Txt} {n : Nat} {o : TR} (h : o = .ok v n) : o.pre b k = .ok (b :: v) (n + k) := by rw [h]; rfl
theorem Qze : ∀ (s r : Txt), txScan (Trm.escs s ++ 34 :: r) = .ok s ((Trm.escs s).length + 1)
  | [], r => by
    cases r with
    | nil => rfl
    | cons d t => simp [Trm.escs, txScan]
  | c :: s, r => by
    have ih := Qze s r
    have e : Trm.escs (c :: s) = Trm.esc c ++ Trm.escs s := rfl
    rw [e, List.append_assoc]
    obtain ⟨q, hq⟩ : ∃ q, Trm.escs s ++ 34 :: r = q := ⟨_, rfl⟩
    rw [hq] at ih ⊢
    obtain ⟨d, q2, rfl⟩ : ∃ d q2, q = d :: q2 := by
      cases hs : Trm.escs s with
      | nil => rw [hs] at hq; exact ⟨_, _, hq.symm⟩
      | cons a b => rw [hs] at hq; exact ⟨_, _, hq.symm⟩
    unfold Trm.esc
    by_cases h34 : c = 34
    · subst h34
      show txScan (92 :: 34 :: d :: q2) = _
      rw [show txScan (92 :: 34 :: d :: q2) = (txScan (d :: q2)).pre 34 2 from rfl, Qoa ih]; simp
    · rw [if_neg h34]
      by_cases h92 : c = 92
      · subst h92
        show txScan (92 :: 92 :: d :: q2) = _
        rw [show txScan (92 :: 92 :: d :: q2) = (txScan (d :: q2)).pre 92 2 from rfl, Qoa ih]; simp
      · rw [if_neg h92]
        by_cases h10 : c = 10
        · subst h10
          show txScan (92 :: 110 :: d :: q2) = _
          rw [show txScan (92 :: 110 :: d :: q2) = (txScan (d :: q2)).pre 10 2 from rfl, Qoa ih]; simp
        · rw [if_neg h10]
          by_cases h9 : c = 9
          · subst h9
            show txScan (92 :: 116 :: d :: q2) = _
            rw [show txScan (92 :: 116 :: d :: q2) = (txScan (d :: q2)).pre 9 2 from rfl, Qoa ih]; simp
          · rw [if_neg h9]
            show txScan (c :: d :: q2) = _
            rw [txScan, if_neg h34, if_neg h10, if_neg h92, Qoa ih]; simp
theorem Jar {s r : Txt} {ts : List Tok} (h : LxR r ts) : LxR (qtT s ++ r) (tk 3 s 0 :: ts) := by
  refine Qe (u := qtT s) ?_ ?_ h
  · show gapAt (34 :: _) = _
    exact Qgd (by decide) (by decide)
  · have e : qtT s ++ r = 34 :: (Trm.escs s ++ 34 :: r) := by simp [qtT]
    have el : (qtT s).length = (Trm.escs s).length + 1 + 1 := by simp [qtT]
    rw [e, el, Qbm, if_neg (by decide), if_neg (by decide), if_pos rfl]
    unfold txRes
    rw [Qze]
def plainS : List UInt8 := [40, 41, 123, 125, 44, 124, 61, 43, 45, 42, 37, 36]
theorem Qaw {c : UInt8} {r : Txt} {ts : List Tok} (hc : c ∈ plainS) (h : LxR r ts) : LxR (c :: r) (tk 4 [c] 0 :: ts) := by
  refine Qe (u := [c]) ?_ ?_ h
  · refine Qgd ?_ ?_
    · revert c; decide
    · revert c; decide
  · show tokAt (c :: r) = _
    rw [Qbm]
    simp only [plainS, List.mem_cons, List.not_mem_nil, or_false] at hc
    rcases hc with rfl | rfl | rfl | rfl | rfl | rfl | rfl | rfl | rfl | rfl | rfl | rfl <;> simp [isL, isD, bv, sgRes, sgLen, isHd, hds, twos, ones, pre, Lib.hasPrefix, List.isPrefixOf]
end
section
theorem Qil {a b : UInt8} {r : Txt} {ts : List Tok} (hc : [a, b] ∈ twos) (h : LxR r ts) : LxR (a :: b :: r) (tk 4 [a, b] 0 :: ts) := by
 refine Qe (u := [a, b]) ?_ ?_ h
 · refine Qgd ?_ ?_ <;> (simp only [twos, List.mem_cons, List.cons.injEq, and_true, List.not_mem_nil, or_false] at hc; rcases hc with ⟨rfl, rfl⟩ | ⟨rfl, rfl⟩ | ⟨rfl, rfl⟩ | ⟨rfl, rfl⟩ | ⟨rfl, rfl⟩ <;> decide)
 show tokAt (a :: b :: r) = _
 rw [Qbm]
 simp only [twos, List.mem_cons, List.cons.injEq, and_true, List.not_mem_nil, or_false] at hc
 rcases hc with ⟨rfl, rfl⟩ | ⟨rfl, rfl⟩ | ⟨rfl, rfl⟩ | ⟨rfl, rfl⟩ | ⟨rfl, rfl⟩ <;> simp [isL, isD, bv, sgRes, sgLen, isHd, hds, twos, pre, Lib.hasPrefix, List.isPrefixOf]
theorem Qli {c : UInt8} {r : Txt} {ts : List Tok} (hc : c ∈ ([58, 60, 62] : Txt)) (h : LxR (32 :: r) ts) : LxR (c :: 32 :: r) (tk 4 [c] 0 :: ts) := by
 refine Qe (u := [c]) ?_ ?_ h
 ·
  refine Qgd ?_ ?_
  · revert c; decide
  · revert c; decide
 show tokAt (c :: 32 :: r) = _
 rw [Qbm]
 simp only [List.mem_cons, List.not_mem_nil, or_false] at hc
 rcases hc with rfl | rfl | rfl <;> simp [isL, isD, bv, sgRes, sgLen, isHd, hds, twos, ones, pre, Lib.hasPrefix, List.isPrefixOf]
theorem Qxh {r : Txt} {ts : List Tok} (h : LxR (32 :: r) ts) : LxR (47 :: 32 :: r) (tk 4 [47] 0 :: ts) := by
 refine Qe (u := [47]) ?_ ?_ h
 ·
  show gapAt (47 :: 32 :: r) = _
  rw [Qdp]
  simp [isB, bv, pre, Lib.hasPrefix, List.isPrefixOf]
 show tokAt (47 :: 32 :: r) = _
 rw [Qbm]
 simp [isL, isD, bv, sgRes, sgLen, isHd, hds, twos, ones, pre, Lib.hasPrefix, List.isPrefixOf]
theorem Jaq {d : UInt8} {t : Txt} {ts : List Tok} (hd : isL (bv d) = true) (h : LxR (d :: t) ts) : LxR (33 :: d :: t) (tk 4 [33] 0 :: ts) := by
 have h61 : (61 == d) = false := by
  cases e : (61 == d) with
  | false => rfl
  | true => rw [← eq_of_beq e] at hd; exact absurd hd (by decide)
 refine Qe (u := [33]) (Qgd (by decide) (by decide)) ?_ h
 show tokAt (33 :: d :: t) = _
 rw [Qbm]
 simp [isL, isD, bv, sgRes, sgLen, isHd, hds, twos, ones, pre, Lib.hasPrefix, List.isPrefixOf, h61]
theorem lxr_dot {r : Txt} {ts : List Tok} (h : LxR r ts) : LxR (46 :: 10 :: r) (tk 4 [46] 0 :: ts) := by
 refine Qe (u := [46]) (Qgd (by decide) (by decide)) ?_ (Qam (by decide) h)
 show tokAt (46 :: 10 :: r) = _
 rw [Qbm]
 simp [isL, isD, bv, sgRes, sgLen, isHd, hds, twos, ones, pre, Lib.hasPrefix, List.isPrefixOf]
theorem Qfl {s r : Txt} {ts : List Tok} (hc : s ∈ hds) (h : LxR r ts) : LxR (s ++ 32 :: r) (tk 4 s 0 :: ts) := by
 refine Qe (u := s) ?_ ?_ (Qam (by decide) h)
 ·
  simp only [hds, List.mem_cons, List.not_mem_nil, or_false] at hc
  rcases hc with rfl | rfl | rfl | rfl <;> exact Qgd (by decide) (by decide)
 simp only [hds, List.mem_cons, List.not_mem_nil, or_false] at hc
 rcases hc with rfl | rfl | rfl | rfl <;> (rw [List.cons_append, Qbm]; simp [isL, isD, bv, sgRes, sgLen, isHd, hds, pre, Lib.hasPrefix, List.isPrefixOf, noW, inW])
theorem Qbi {c : UInt8} {r : Txt} (h1 : inW (bv c) = false) (h2 : c ≠ 46) : Stop (c :: r) := ⟨by simp [noW, h1], fun t e => by cases e; exact absurd rfl h2⟩
theorem Jbn (r : Txt) : Stop (46 :: 10 :: r) := ⟨rfl, fun t e => by cases e; rfl⟩
def Wd (s : Txt) : Prop := Nm s ∧ s ≠ [95] ∧ s.contains 46 = false
def ops5 : List Txt := [[43], [45], [42], [47], [37]]
def cmps : List Txt := [[61], [33, 61], [60], [60, 61], [62], [62, 61]]
inductive WfE : Ex → Prop
 | var (s : Txt) (a : Int) (h : Wd s) : WfE (.mk 1 0 s [] a)
 | num (n a : Int) (h0 : -9223372036854775807 ≤ n) (h1 : n ≤ 9223372036854775807) : WfE (.mk 2 n [] [] a)
 | text (s : Txt) (a : Int) : WfE (.mk 3 0 s [] a)
 | any (a : Int) : WfE (.mk 4 0 [] [] a)
 | op (s : Txt) (x y : Ex) (a : Int) (hs : s ∈ ops5) (hx : WfE x) (hy : WfE y) : WfE (.mk 5 0 s [x, y] a)
 | con (s : Txt) (ks : List Ex) (a : Int) (hs : Wd s) (hl : ks.length ≤ 8) (hk : ∀ x ∈ ks, WfE x) : WfE (.mk 6 0 s ks a)
def joinK (sep : Txt) : List (List Tok) → List Tok
 | [] => []
 | t :: ts => t ++ ts.flatMap (tk 4 sep 0 :: ·)
def numK (n : Int) : List Tok := if n < 0 then [tk 4 [45] 0, tk 2 [] (n.natAbs : Int)] else [tk 2 [] (n.toNat : Int)]
def opdK (k : Int) (t : List Tok) : List Tok := if k = 5 then [tk 4 [40] 0] ++ t ++ [tk 4 [41] 0] else t
def opK (s : Txt) : List Int → List (List Tok) → List Tok
 | [a, b], [t, u] => opdK a t ++ [tk 4 s 0] ++ opdK b u
 | _, _ => []
mutual
def exK : Ex → List Tok
 | .mk k n s ks _ => if k = 1 then [tk 1 s 0] else if k = 2 then numK n else if k = 3 then [tk 3 s 0] else if k = 4 then [tk 1 [95] 0] else if k = 5 then opK s (ks.map Ex.kind) (exKs ks) else if k = 6 then [tk 4 [36] 0, tk 1 s 0, tk 4 [40] 0] ++ joinK [44] (exKs ks) ++ [tk 4 [41] 0] else []
def exKs : List Ex → List (List Tok)
 | [] => []
 | x :: xs => exK x :: exKs xs
end
theorem Qot : ∀ xs : List Ex, exKs xs = xs.map exK
 | [] => by simp [exKs]
 | x :: xs => by rw [exKs, Qot xs]; rfl
def LxS (t : Txt) (ks : List Tok) : Prop := ∀ r ts, Stop r → LxR r ts → LxR (t ++ r) (ks ++ ts)
theorem Stop.noW {r : Txt} (h : Stop r) : Go.Proofs.YtccehgfecaamoaaGreatDoor.noW r = true := h.1
theorem Jas : Nm [95] := ⟨by decide, by decide, by decide, 95, [], rfl, by decide⟩
theorem lxs_num {n : Int} (h0 : -9223372036854775807 ≤ n) (h1 : n ≤ 9223372036854775807) : LxS (Lib.itoa n) (numK n) := fun r ts hr h => by
 unfold Lib.itoa numK
 split
 · exact Qaw (by decide) (Qxg (by omega) hr.1 h)
 · exact Qxg (by omega) hr.1 h
theorem Qrf {α : Type} {sT sK : Txt} (hsep : ∀ r ts, LxR r ts → LxR (sT ++ r) (tk 4 sK 0 :: ts)) (hst : ∀ r, Stop (sT ++ r)) {T : α → Txt} {K : α → List Tok} : ∀ xs : List α, (∀ x ∈ xs, LxS (T x) (K x)) → ∀ r ts, Stop r → LxR r ts → LxR ((xs.map T).flatMap (sT ++ ·) ++ r) ((xs.map K).flatMap (tk 4 sK 0 :: ·) ++ ts) ∧ Stop ((xs.map T).flatMap (sT ++ ·) ++ r)
 | [], _, r, ts, hr, h => ⟨h, hr⟩
 | x :: xs, hx, r, ts, hr, h => by
  obtain ⟨h1, h2⟩ := Qrf hsep hst xs (fun y hy => hx y (List.mem_cons_of_mem _ hy)) r ts hr h
  have h3 := hx x (by simp) _ _ h2 h1
  have h4 := hsep _ _ h3
  simp only [List.map_cons, List.flatMap_cons, List.append_assoc, List.cons_append] at h4 ⊢
  exact ⟨h4, hst _⟩
theorem Qfm {α : Type} {sT sK : Txt} (hsep : ∀ r ts, LxR r ts → LxR (sT ++ r) (tk 4 sK 0 :: ts)) (hst : ∀ r, Stop (sT ++ r)) {T : α → Txt} {K : α → List Tok} (xs : List α) (hx : ∀ x ∈ xs, LxS (T x) (K x)) : LxS (joinT sT (xs.map T)) (joinK sK (xs.map K)) := fun r ts hr h => by
 cases xs with
 | nil => exact h
 | cons x xs =>
  obtain ⟨h1, h2⟩ := Qrf hsep hst xs (fun y hy => hx y (List.mem_cons_of_mem _ hy)) r ts hr h
  have h3 := hx x (by simp) _ _ h2 h1
  simp only [List.map_cons, joinT, joinK, List.append_assoc]
  exact h3
theorem Qfh (r : Txt) (ts : List Tok) (h : LxR r ts) : LxR ([44, 32] ++ r) (tk 4 [44] 0 :: ts) := Qaw (by decide) (Qam (by decide) h)
theorem Qeh (r : Txt) : Stop ([44, 32] ++ r) := Qbi (by decide) (by decide)
theorem Qxk {k : Int} {t : Txt} {ks : List Tok} (h : LxS t ks) : LxS (opdT k t) (opdK k ks) := fun r ts hr hh => by
 unfold opdT opdK
 split
 ·
  have h1 := h (41 :: r) (tk 4 [41] 0 :: ts) (Qbi (by decide) (by decide)) (Qaw (by decide) hh)
  have h2 := Qaw (c := 40) (by decide) h1
  simpa using h2
 · exact h r ts hr hh
theorem lxr_op5 {s r : Txt} {ts : List Tok} (hs : s ∈ ops5) (h : LxR r ts) : LxR (32 :: (s ++ 32 :: r)) (tk 4 s 0 :: ts) := by
 refine Qam (by decide) ?_
 simp only [ops5, List.mem_cons, List.not_mem_nil, or_false] at hs
 rcases hs with rfl | rfl | rfl | rfl | rfl
 · exact Qaw (by decide) (Qam (by decide) h)
 · exact Qaw (by decide) (Qam (by decide) h)
 · exact Qaw (by decide) (Qam (by decide) h)
 · exact Qxh (Qam (by decide) h)
 · exact Qaw (by decide) (Qam (by decide) h)
theorem Qxi {x : Ex} (hx : WfE x) : LxS (exT x) (exK x) := by
 induction hx with
 | var s a h => intro r ts hr hh; simp only [exT, exK, if_true]; exact Qbf h.1 hr hh
 | num n a h0 h1 => intro r ts hr hh; simp [exT, exK]; exact lxs_num h0 h1 r ts hr hh
 | text s a => intro r ts hr hh; simp [exT, exK]; exact Jar hh
 | any a => intro r ts hr hh; simp [exT, exK]; exact Qbf Jas hr hh
 | op s x y a hs _ _ ihx ihy =>
  intro r ts hr hh
  have h1 := Qxk (k := y.kind) ihy r ts hr hh
  have h2 := lxr_op5 hs h1
  have h3 := Qxk (k := x.kind) ihx _ _ (Qbi (by decide) (by decide)) h2
  simpa [exT, exK, opT, opK, exTs, exKs] using h3
 | con s ks a hs hl hk ih =>
  intro r ts hr hh
  have h1 := Qaw (c := 41) (by decide) hh
  have h2 := Qfm Qfh Qeh ks ih _ _ (Qbi (by decide) (by decide)) h1
  have h3 := Qaw (c := 40) (by decide) h2
  have h4 := Qbf hs.1 (Qbi (by decide) (by decide)) h3
  have h5 := Qaw (c := 36) (by decide) h4
  simpa [exT, exK, Qou, Qot] using h5
end
end Go.Proofs.YtccehgfecaamoaaGreatDoor
