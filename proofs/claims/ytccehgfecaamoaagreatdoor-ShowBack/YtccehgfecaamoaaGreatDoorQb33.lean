/- How deep what is read can be. show's writer: String. The plain reading: a fault is one. show: Show. show: Format. show: alive, ShowAgain. -/
import Derived.Test.YtccehgfecaamoaaGreatDoorQb32
import Derived.Test.YtccehgfecaamoaaGreatDoorQb22
import Derived.Lib.UnsafeStr
import Derived.Test.YtccehgfecaamoaaGreatDoorQb21
import Derived.Test.YtccehgfecaamoaaGreatDoorQb20
import Derived.Test.YtccehgfecaamoaaGreatDoorQb29
set_option maxRecDepth 100000
set_option maxHeartbeats 32000000
namespace Go.Proofs.YtccehgfecaamoaaGreatDoor
section
section
variable (e : Nat)
def DpR (n : Nat) (r : Rs Ex) : Prop := ∀ x l j, r = .ok x l j → dpE x + l.length ≤ n
def Dp (p : Pr Ex) : Prop := ∀ l i, DpR l.length (p l i)
theorem Qyk {l : List Tok} {s : Txt} (h : sgn e l = s) (hs : s ≠ []) : 1 ≤ l.length := by
 cases l with
 | nil => exact absurd h.symm hs
 | cons t l => simp
theorem Qhd {l : List Tok} (h : 1 ≤ l.length) : (l.drop 1).length + 1 = l.length := by rw [List.length_drop]; omega
theorem Qfj (l : List Tok) : (l.drop 1).length ≤ l.length := by rw [List.length_drop]; omega
theorem Qpr {s : Txt} {l l' : List Tok} {i j : Nat} (h : want e s l i = .ok () l' j) : l'.length ≤ l.length := by
 unfold want at h
 split at h
 · cases h; exact Qfj l
 · cases h
theorem Quu {ss : List Txt} (h0 : ([] : Txt) ∉ ss) {l l' : List Tok} {i j : Nat} {s : Txt} (h : choose e ss l i = .ok s l' j) : l'.length + 1 ≤ l.length := by
 unfold choose at h
 split at h
 ·
  rename_i hs
  cases h
  rw [Qhd (Qyk e rfl (fun e => h0 (e ▸ hs)))]
  omega
 · cases h
theorem Qzo {l l' : List Tok} {i j : Nat} {s : Txt} (h : wordQ e l i = .ok s l' j) : l'.length ≤ l.length := by
 unfold wordQ at h
 split at h
 · cases h; exact Qfj l
 · cases h
theorem Qfa : ∀ (xs : List Ex) (x : Ex), dpEs (xs ++ [x]) = max (dpEs xs) (dpE x)
 | [], x => by simp [dpEs]
 | y :: xs, x => by rw [List.cons_append, dpEs, Qfa xs x, dpEs]; omega
theorem Qqm {part : Pr Ex} (hp : Dp part) (sep : Txt) (most : Nat) : ∀ (f : Nat) (acc : List Ex) (l : List Tok) (i n : Nat), dpEs acc + l.length ≤ n → ∀ xs l' j, listL e sep most part f acc l i = .ok xs l' j → dpEs xs + l'.length ≤ n
 | 0, acc, l, i, n, h, xs, l', j, h2 => by cases h2; exact h
 | f + 1, acc, l, i, n, h, xs, l', j, h2 => by
  unfold listL at h2
  split at h2
  · cases h2
  cases hr : part l i with
  | bad w a m => rw [hr] at h2; cases h2
  | ok x l2 i2 =>
   have h3 := hp l i x l2 i2 hr
   rw [hr] at h2
   simp only [Rs.bind] at h2
   have h4 : dpEs (acc ++ [x]) + l2.length ≤ n := by rw [Qfa]; omega
   split at h2
   · exact Qqm hp sep most f _ _ _ n (by have := Qfj l2; omega) xs l' j h2
   · cases h2; exact h4
theorem Qva {part : Pr Ex} (hp : Dp part) (op cl : Txt) (l : List Tok) (i : Nat) : ∀ xs l' j, encl e op cl part l i = .ok xs l' j → dpEs xs + l'.length ≤ l.length := by
 intro xs l' j h
 unfold encl at h
 cases h1 : want e op l i with
 | bad w a m => rw [h1] at h; cases h
 | ok _ l2 i2 =>
  have g1 := Qpr e h1
  rw [h1] at h
  simp only [Rs.bind] at h
  split at h
  ·
   cases h
   have := Qfj l2
   simp only [dpEs]; omega
  cases h2 : listP e [44] 8 part l2 i2 with
  | bad w a m => rw [h2] at h; cases h
  | ok ys l3 i3 =>
   have g2 := Qqm e hp [44] 8 _ [] l2 i2 l2.length (by simp [dpEs]) ys l3 i3 h2
   rw [h2] at h
   simp only at h
   cases h3 : want e cl l3 i3 with
   | bad w a m => rw [h3] at h; cases h
   | ok _ l4 i4 =>
    have g3 := Qpr e h3
    rw [h3] at h
    cases h
    show dpEs ys + _ ≤ _
    omega
theorem dp_op (s : Txt) (x y : Ex) : dpE (opE s x y) = max (dpE x) (dpE y) + 1 := by simp [opE, dpE, dpEs]
theorem Qql {F : Pr Ex} (hF : Dp F) {signs : List Txt} (h0 : ([] : Txt) ∉ signs) : ∀ (f : Nat) (x : Ex) (l : List Tok) (i n : Nat), dpE x + l.length ≤ n → DpR n (joinL e F signs f x l i)
 | 0, x, l, i, n, h => fun y l' j h2 => by cases h2; exact h
 | f + 1, x, l, i, n, h => fun y l' j h2 => by
  unfold joinL at h2
  split at h2
  ·
   rename_i hs
   have hl := Qhd (Qyk e rfl (fun e => h0 (e ▸ hs)))
   cases hr : F (l.drop 1) i with
   | bad w a m => rw [hr] at h2; cases h2
   | ok z l2 i2 =>
    have h3 := hF _ _ z l2 i2 hr
    rw [hr] at h2
    exact Qql hF h0 f _ l2 i2 n (by rw [dp_op]; omega) y l' j h2
  · cases h2; exact h
theorem Qmj {F : Pr Ex} (hF : Dp F) {signs : List Txt} (h0 : ([] : Txt) ∉ signs) : Dp (joined e F signs) := fun l i y l' j h => by
 unfold joined at h
 cases hr : F l i with
 | bad w a m => rw [hr] at h; cases h
 | ok x l2 i2 =>
  rw [hr] at h
  exact Qql e hF h0 _ x l2 i2 l.length (hF l i x l2 i2 hr) y l' j h
theorem Qsq {E F : Pr Ex} (hE : Dp E) (hF : Dp F) : Dp (factorB e E F) := fun l i y l' j h => by
 have hd := Qfj l
 unfold factorB at h
 split at h
 · cases h; simp [dpE, dpEs]
 split at h
 · cases h; simp [dpE, dpEs]
 split at h
 ·
  split at h
  · cases h; simp [dpE, dpEs]
  cases hw : wordQ e l i with
  | bad w a m => rw [hw] at h; cases h
  | ok s l2 i2 =>
   have := Qzo e hw
   rw [hw] at h
   cases h
   simpa [dpE, dpEs] using this
 unfold signed at h
 cases hc : choose e [[45], [40], [36]] l i with
 | bad w a m => rw [hc] at h; cases h
 | ok s l2 i2 =>
  have g1 := Quu e (by decide) hc
  rw [hc] at h
  simp only [Rs.bind] at h
  split at h
  ·
   cases hr : F l2 i2 with
   | bad w a m => rw [hr] at h; cases h
   | ok x l3 i3 =>
    have g2 := hF l2 i2 x l3 i3 hr
    rw [hr] at h
    cases h
    split
    · simp only [dpE, dpEs]; simp; omega
    · rw [dp_op]; simp only [dpE, dpEs]; simp; omega
  split at h
  ·
   cases hr : E l2 i2 with
   | bad w a m => rw [hr] at h; cases h
   | ok x l3 i3 =>
    have g2 := hE l2 i2 x l3 i3 hr
    rw [hr] at h
    simp only at h
    cases hz : want e [41] l3 i3 with
    | bad w a m => rw [hz] at h; cases h
    | ok _ l4 i4 =>
     have g3 := Qpr e hz
     rw [hz] at h
     cases h
     show dpE x + _ ≤ _
     omega
  cases hw : wordQ e l2 i2 with
  | bad w a m => rw [hw] at h; cases h
  | ok s l3 i3 =>
   have g2 := Qzo e hw
   rw [hw] at h
   simp only at h
   cases hz : encl e [40] [41] E l3 i3 with
   | bad w a m => rw [hz] at h; cases h
   | ok ks l4 i4 =>
    have g3 := Qva e hE _ _ l3 i3 ks l4 i4 hz
    rw [hz] at h
    cases h
    simp only [dpE]; simp; omega
theorem Qmi : ∀ d : Nat, Dp (exD e d).1 ∧ Dp (exD e d).2
 | 0 => ⟨fun _ _ _ _ _ h => (by cases h), fun _ _ _ _ _ h => (by cases h)⟩
 | d + 1 => ⟨Qmj e (Qmj e (Qmi d).2 (by decide)) (by decide), Qsq e (Qmi d).1 (Qmi d).2⟩
variable (N : Nat)
def Onr {α : Type} (P : α → Prop) (r : Rs α) : Prop := ∀ x l j, r = .ok x l j → P x ∧ l.length ≤ N
def On {α : Type} (P : α → Prop) (p : Pr α) : Prop := ∀ l i, l.length ≤ N → Onr N P (p l i)
variable {N}
section
variable {α β : Type} {P : α → Prop} {Q : β → Prop}
theorem Qes (w a : Int) (l : List Tok) : Onr N P (.bad w a l) := fun _ _ _ h => by cases h
theorem Qds {x : α} {l : List Tok} {j : Nat} (h : P x) (hl : l.length ≤ N) : Onr N P (.ok x l j) := fun _ _ _ e => by cases e; exact ⟨h, hl⟩
theorem Onr.bind {r : Rs α} {f : α → Pr β} (h : Onr N P r) (hf : ∀ x l i, P x → l.length ≤ N → Onr N Q (f x l i)) : Onr N Q (r.bind f) := by
 cases r with
 | bad w a l => exact Qes _ _ _
 | ok x l i => exact hf x l i (h x l i rfl).1 (h x l i rfl).2
theorem Onr.map {r : Rs α} {f : α → β} (h : Onr N P r) (hf : ∀ x, P x → Q (f x)) : Onr N Q (r.map f) := by
 cases r with
 | bad w a l => exact Qes _ _ _
 | ok x l i => exact Qds (hf x (h x l i rfl).1) (h x l i rfl).2
theorem Qbk {c : Prop} [Decidable c] {a b : Rs α} (h1 : c → Onr N P a) (h2 : ¬ c → Onr N P b) : Onr N P (if c then a else b) := by
 split
 · rename_i h; exact h1 h
 · rename_i h; exact h2 h
end
theorem dN {l : List Tok} (h : l.length ≤ N) : (l.drop 1).length ≤ N := Nat.le_trans (Qfj l) h
theorem Qxw {α : Type} {P : α → Prop} (why : Int) : On N P (refuse e why) := fun _ _ _ => Qes _ _ _
theorem Qfe (s : Txt) : On N (fun _ => True) (want e s) := fun _ _ h => Qbk (fun _ => Qds trivial (dN h)) (fun _ => Qes _ _ _)
theorem Qnd (ss : List Txt) : On N (fun _ => True) (choose e ss) := fun _ _ h => Qbk (fun _ => Qds trivial (dN h)) (fun _ => Qes _ _ _)
theorem Qne : On N (fun _ => True) (nmQ e) := fun _ _ h => Qbk (fun _ => Qds trivial (dN h)) (fun _ => Qes _ _ _)
theorem Qfn : On N (fun _ => True) (wordQ e) := fun _ _ h => Qbk (fun _ => Qds trivial (dN h)) (fun _ => Qes _ _ _)
theorem Qro {α : Type} {P : α → Prop} {part : Pr α} (hp : On N P part) (sep : Txt) (most : Nat) : ∀ (f : Nat) (acc : List α), (∀ y ∈ acc, P y) → On N (fun xs => ∀ y ∈ xs, P y) (listL e sep most part f acc)
 | 0, acc, ha => fun _ _ h => Qds ha h
 | f + 1, acc, ha => fun l i h => by
  unfold listL
  refine Qbk (fun _ => Qes _ _ _) (fun _ => ?_)
  refine (hp l i h).bind (fun x l2 i2 hx hl => ?_)
  exact Qbk (fun _ => Qro hp sep most f _ (Qbc ha hx) _ _ (dN hl)) (fun _ => Qds (Qbc ha hx) hl)
theorem Qhp {α : Type} {P : α → Prop} {part : Pr α} (hp : On N P part) (sep : Txt) (most : Nat) : On N (fun xs => ∀ y ∈ xs, P y) (listP e sep most part) := fun l i h => Qro e hp sep most _ _ (fun y hy => by cases hy) l i h
theorem Qxv {α : Type} {P : α → Prop} {part : Pr α} (hp : On N P part) (op cl : Txt) : On N (fun _ => True) (encl e op cl part) := fun l i h => by
 unfold encl
 refine (Qfe e op l i h).bind (fun _ l2 i2 _ hl => ?_)
 refine Qbk (fun _ => Qds trivial (dN hl)) (fun _ => ?_)
 exact (Qhp e hp [44] 8 l2 i2 hl).bind (fun xs l3 i3 _ hl3 => (Qfe e cl l3 i3 hl3).map (fun _ _ => trivial))
theorem on_ex (d : Nat) : On N (fun x => dpE x ≤ N) (exD e d).1 := fun l i h x l' j hr => by
 have := (Qmi e d).1 l i x l' j hr
 exact ⟨by omega, by omega⟩
theorem Qpf (d : Nat) : On N (fun a => dpEs a.args ≤ N) (atomP e d) := fun l i h => (Qne e l i h).bind (fun n l2 i2 _ hl => by
 have h1 : Onr N (fun zs => dpEs zs ≤ N) (encl e [40] [41] (exD e d).1 l2 i2) := fun zs l' j hr => by
  have := Qva e (Qmi e d).1 _ _ l2 i2 zs l' j hr
  exact ⟨by omega, by omega⟩
 exact h1.map (fun zs hz => hz))
theorem on_lit (d : Nat) : On N (fun x => dpLt x ≤ N) (litP e d) := fun l i h => by
 unfold litP
 refine Qbk (fun _ => (Qpf e d _ _ (dN h)).map (fun a ha => ?_)) (fun _ => ?_)
 · simp only [dpLt, dpEs, dpE, Ex.none] at ha ⊢; simp; exact ha
 refine Qbk (fun _ => (Qpf e d _ _ h).map (fun a ha => ?_)) (fun _ => ?_)
 · simp only [dpLt, dpEs, dpE, Ex.none] at ha ⊢; simp; exact ha
 refine (on_ex e d l i h).bind (fun x l2 i2 hx hl => (Qnd e _ l2 i2 hl).bind (fun o l3 i3 _ hl3 => (on_ex e d l3 i3 hl3).map (fun y hy => ?_)))
 simp only [dpLt, dpEs, Atm.none] at hx hy ⊢
 omega
theorem Qv : ∀ {xs : List Lt}, (∀ x ∈ xs, dpLt x ≤ N) → dpLs xs ≤ N
 | [], _ => Nat.zero_le _
 | x :: xs, h => by
  rw [dpLs]
  have h1 := h x (by simp)
  have h2 := Qv (xs := xs) (fun y hy => h y (List.mem_cons_of_mem _ hy))
  omega
theorem Qxu (d : Nat) : On N (fun x => dpCl x ≤ N) (clauseP e d) := fun l i h => by
 unfold clauseP
 refine (Qpf e d l i h).bind (fun a l2 i2 ha hl => ?_)
 refine Qbk (fun _ => (Qhp e (on_lit e d) _ _ _ _ (dN hl)).bind (fun b l3 i3 hb hl3 => (Qfe e _ l3 i3 hl3).map (fun _ _ => ?_))) (fun _ => (Qfe e _ l2 i2 hl).map (fun _ _ => ?_))
 · have := Qv hb; simp only [dpCl] at ha ⊢; omega
 · simp only [dpCl, dpLs] at ha ⊢; omega
theorem Qrn : On N (fun _ => True) (fieldP e) := fun l i h => (Qfn e l i h).bind (fun _ l2 i2 _ hl => (Qfe e _ l2 i2 hl).bind (fun _ l3 i3 _ hl3 => (Qne e l3 i3 hl3).map (fun _ _ => trivial)))
theorem on_ctor : On N (fun _ => True) (ctorP e) := fun l i h => (Qfn e l i h).bind (fun _ l2 i2 _ hl => (Qxv e (Qrn e) _ _ l2 i2 hl).map (fun _ _ => trivial))
theorem on_type : On N (fun _ => True) (typeP e) := fun l i h => by
 unfold typeP
 refine (Qfn e _ i (dN h)).bind (fun n l2 i2 _ hl => (Qnd e _ l2 i2 hl).bind (fun s l3 i3 _ hl3 => ?_))
 exact Qbk (fun _ => (Qne e l3 i3 hl3).map (fun _ _ => trivial)) (fun _ => (Qhp e (on_ctor e) _ _ l3 i3 hl3).map (fun _ _ => trivial))
theorem Qlm : ∀ (f : Nat) (a b : Bool), On N (fun _ => True) (flagL e f a b)
 | 0, a, b => fun _ _ h => Qds trivial h
 | f + 1, a, b => fun l i h => by
  unfold flagL
  refine Qbk (fun _ => Qbk (fun _ => Qlm f _ _ _ _ (dN h)) (fun _ => Qbk (fun _ => Qlm f _ _ _ _ (dN h)) (fun _ => Qds trivial h))) (fun _ => Qds trivial h)
theorem on_decl : On N (fun _ => True) (declP e) := fun _ i h => (Qfn e _ i (dN h)).bind (fun _ l2 i2 _ hl => (Qxv e (Qrn e) _ _ l2 i2 hl).bind (fun _ l3 i3 _ hl3 => (Qlm e _ _ _ l3 i3 hl3).map (fun _ _ => trivial)))
theorem on_init : On N (fun _ => True) (initP e) := fun _ i h => (Qfn e _ i (dN h)).bind (fun _ l2 i2 _ hl => (Qfe e _ l2 i2 hl).bind (fun _ l3 i3 _ hl3 => (Qne e l3 i3 hl3).map (fun _ _ => trivial)))
theorem Jau {B : Pr Pg} (hB : On N (fun p => (dpP p).2 ≤ N) B) : On N (fun x => (dpP x.2.2.1).2 ≤ N) (compB e B) := fun l i h => by
 unfold compB
 refine (Qfn e _ i (dN h)).bind (fun n l2 i2 _ hl => ?_)
 have h1 : Onr N (fun _ => True) (if sgn e l2 = [58] then listP e [44] noMost (nmQ e) (l2.drop 1) i2 else .ok [] l2 i2) := Qbk (fun _ => fun x l' j h => ⟨trivial, (Qhp e (Qne e) _ _ _ _ (dN hl) x l' j h).2⟩) (fun _ => Qds trivial hl)
 exact h1.bind (fun bs l3 i3 _ hl3 => (Qfe e _ l3 i3 hl3).bind (fun _ l4 i4 _ hl4 => (hB l4 i4 hl4).bind (fun p l5 i5 hp hl5 => (Qfe e _ l5 i5 hl5).map (fun _ _ => hp))))
theorem Qgq : ∀ (xs : List Cls) (x : Cls), dpCls (xs ++ [x]) = max (dpCls xs) (dpCl x)
 | [], x => by simp [dpCls]
 | y :: xs, x => by rw [List.cons_append, dpCls, Qgq xs x, dpCls]; omega
theorem Qib : ∀ (xs : List Cp) (x : Cp), (dpCs (xs ++ [x])).2 = max (dpCs xs).2 (dpP x.2.2.1).2
 | [], (n, bs, p, a) => by simp [dpCs]
 | (n, bs, p, a) :: xs, x => by rw [List.cons_append, dpCs, dpCs]; simp only; rw [Qib xs x]; omega
theorem on_item (d : Nat) {C : Pr (Txt × List Txt × Pg × Int)} (hC : On N (fun x => (dpP x.2.2.1).2 ≤ N) C) (p : Pg) (hp : (dpP p).2 ≤ N) : On N (fun p => (dpP p).2 ≤ N) (itemP e d C p) := fun l i h => by
 cases p with
 | mk ts ds cs is ls =>
  rw [dpP] at hp
  simp only at hp
  unfold itemP
  refine Qbk (fun _ => Qes _ _ _) (fun _ => ?_)
  refine Qbk (fun _ => (on_type e l _ h).map (fun x _ => by rw [dpP]; exact hp)) (fun _ => ?_)
  refine Qbk (fun _ => (on_decl e l _ h).map (fun x _ => by rw [dpP]; exact hp)) (fun _ => ?_)
  refine Qbk (fun _ => (hC l _ h).map (fun x hx => by
   rw [dpP]
   simp only [Pg.comps, Pg.clauses]
   rw [Qib]
   omega)) (fun _ => ?_)
  refine Qbk (fun _ => (on_init e l _ h).map (fun x _ => by rw [dpP]; exact hp)) (fun _ => ?_)
  exact (Qxu e d l _ h).map (fun x hx => by
   rw [dpP]
   simp only [Pg.comps, Pg.clauses]
   rw [Qgq]
   omega)
theorem Qln (top : Bool) (d : Nat) {C : Pr (Txt × List Txt × Pg × Int)} (hC : On N (fun x => (dpP x.2.2.1).2 ≤ N) C) : ∀ (f : Nat) (p : Pg), (dpP p).2 ≤ N → On N (fun p => (dpP p).2 ≤ N) (progL e top d C f p)
 | 0, p, hp => fun _ _ h => Qds hp h
 | f + 1, p, hp => fun l i h => by
  unfold progL
  refine Qbk (fun _ => Qds hp h) (fun _ => ?_)
  exact (on_item e d hC p hp l i h).bind (fun q l2 i2 hq hl => Qln top d hC f q hq l2 i2 hl)
theorem Qrp : ∀ (d : Nat) (top : Bool), On N (fun p => (dpP p).2 ≤ N) (progD e d top)
 | 0, top => fun l i h => Qln e top 0 (Qxw e 4) _ .none (Nat.zero_le _) l i h
 | d + 1, top => fun l i h => Qln e top (d + 1) (Jau e (Qrp d false)) _ .none (Nat.zero_le _) l i h
end
mutual
theorem Jce : ∀ p : Pg, (dpP p).1 ≤ nP p
 | .mk ts ds cs is ls => by
  have := Jcd cs
  rw [dpP, nP]; simp only; omega
theorem Jcd : ∀ cs : List Cp, (dpCs cs).1 ≤ nCs cs
 | [] => Nat.le_refl _
 | (n, bs, p, a) :: cs => by
  have h1 := Jce p
  have h2 := Jcd cs
  rw [dpCs, nCs]; simp only; omega
end
theorem Jaw {s : Txt} {p : Pg} {l : List Tok} {i : Nat} (h : parseP s = .ok p l i) : (dpP p).1 ≤ 96 ∧ (dpP p).2 ≤ 65536 := by
 obtain ⟨_, hn⟩ := Qlr h
 refine ⟨Nat.le_trans (Jce p) hn, ?_⟩
 unfold parseP at h
 cases hl : lexP s with
 | bad w a => rw [hl] at h; cases h
 | ok toks =>
  rw [hl] at h
  obtain ⟨g1, g2, _⟩ := Qrd hl
  exact (Qrp (N := 65536) s.length 32 true toks 0 (by omega) p l i h).1
end
section
open Go.RowKit Go.Maps
theorem w3drew {w : World} {b : Nat} {p v q : Value} (hb : w.heap[b]? = some (.cells #[p, v, q] 55 (0, 0))) : w.drew.cell? ⟨b, 1, none⟩ = some v := by
 have : w.drew.heap[b]? = some (.cells #[p, v, q] 55 (0, 0)) := hb
 rw [Lib.cell_of_heap this]; rfl
theorem Jbz {B b : Nat} {w : World} {p q : Value} (hb : w.heap[b]? = some (.cells #[p, .slice none 0 0, q] 55 (0, 0))) :
  Calls Tryz.prog 14 #[.pointer (some ⟨b, 0, none⟩)] w fun e w' => e = .returned (.string ⟨#[]⟩) ∧ Below B w w' := by
 have mixed : Tryz.prog.follows .mixedOrders = true := by kernel_rfl
 have hUS := fun (W : World) (q : Option Addr) => Lib.run_unsafeString_none (P := Tryz.prog) W 107 3 9 q
 have c1 := w3drew hb
 have hSD : (Builtin.unsafeSliceData_ #[51] 107 #[.slice none 0 0]).run Tryz.prog w.drew = .ok (.pointer none) w.drew := rfl
 clear hb
 go_enter Tryz.func14, Tryz.ntmps14
 go_wp2
 go_region_o
 all_goals (go_wp2; go_ret; exact ⟨rfl, Below.drew (Below.refl B w)⟩)
theorem Qpz {B b g : Nat} {w : World} {p q : Value} {cur : Array Value} (hBw : B ≤ w.heap.size) (hb : w.heap[b]? = some (.cells #[p, .slice (some ⟨g, 0, none⟩) 0 0, q] 55 (0, 0))) (fz : Nat × Nat) (hg : w.heap[g]? = some (.cells cur 5 fz)) :
  Calls Tryz.prog 14 #[.pointer (some ⟨b, 0, none⟩)] w fun e w' => e = .returned (.string ⟨#[]⟩) ∧ Below B w w' := by
 have mixed : Tryz.prog.follows .mixedOrders = true := by kernel_rfl
 have hUS := fun (W : World) (q : Option Addr) => Lib.run_unsafeString_none (P := Tryz.prog) W 107 3 9 q
 have c1 := w3drew hb
 have hlt : b < w.drew.heap.size := Qag hb
 have hSD : (Builtin.unsafeSliceData_ #[51] 107 #[.slice (some ⟨g, 0, none⟩) 0 0]).run Tryz.prog w.drew = .ok (.pointer (some ⟨w.drew.heap.size, 0, none⟩)) (w.drew.alloc (.view ⟨g, 0, none⟩ 5)) :=
  Lib.run_unsafeSliceData_zero w.drew _ _ 5 Tryz.underlying107 ⟨g, 0, none⟩ 0 (5, cur.size) (by have hg' : w.drew.heap[g]? = some (.cells cur 5 fz) := hg; simp [World.shape?, hg'])
 have c2 : (w.drew.alloc (.view ⟨g, 0, none⟩ 5)).cell? ⟨b, 1, none⟩ = some (.slice (some ⟨g, 0, none⟩) 0 0) := by
  have : (w.drew.alloc (.view ⟨g, 0, none⟩ 5)).heap[b]? = _ := (Lib.alloc_old w.drew _ b hlt).trans hb
  rw [Lib.cell_of_heap this]; rfl
 have c3 : (w.alloc (.view ⟨g, 0, none⟩ 5)).drew.cell? ⟨b, 1, none⟩ = some (.slice (some ⟨g, 0, none⟩) 0 0) := c2
 have c0 : w.cell? ⟨b, 1, none⟩ = some (.slice (some ⟨g, 0, none⟩) 0 0) := c1
 clear hb hg hlt
 go_enter Tryz.func14, Tryz.ntmps14
 go_wp2
 go_region_o
 all_goals (go_wp2; go_ret; exact ⟨rfl, (Below.drew (Below.refl B w)).alloc hBw _⟩)
theorem Qzq {B b g cap : Nat} {w : World} {p q : Value} (hc0 : cap ≠ 0) (hb : w.heap[b]? = some (.cells #[p, .slice (some ⟨g, 0, none⟩) 0 cap, q] 55 (0, 0))) :
  Calls Tryz.prog 14 #[.pointer (some ⟨b, 0, none⟩)] w fun e w' => e = .returned (.string ⟨#[]⟩) ∧ Below B w w' := by
 have mixed : Tryz.prog.follows .mixedOrders = true := by kernel_rfl
 have hUS := fun (W : World) (q : Option Addr) => Lib.run_unsafeString_none (P := Tryz.prog) W 107 3 9 q
 have c1 := w3drew hb
 have hSD : (Builtin.unsafeSliceData_ #[51] 107 #[.slice (some ⟨g, 0, none⟩) 0 cap]).run Tryz.prog w.drew = .ok (.pointer (some ⟨g, 0, none⟩)) w.drew :=
  Lib.run_unsafeSliceData_row _ _ _ _ _ _ hc0
 clear hc0 hb
 go_enter Tryz.func14, Tryz.ntmps14
 go_wp2
 go_region_o
 all_goals (go_wp2; go_ret; exact ⟨rfl, Below.drew (Below.refl B w)⟩)
theorem Qq {B b : Nat} {c : Txt} {lg : Bool} {w : World} (h : Wr B b c lg w) :
  Calls Tryz.prog 14 #[.pointer (some ⟨b, 0, none⟩)] w fun e w' => e = .returned (str c) ∧ Below B w w' := by
 have hBw := h.hB
 obtain ⟨p, v, hb, hp, hown, hne⟩ := h.box
 by_cases h0 : c = []
 ·
  subst h0
  rcases hown.2 with ⟨rfl, _⟩ | ⟨g, cap, cur, fz, rfl, hbg, hg, _, _, _, _, _⟩
  · exact Jbz hb
  by_cases hc0 : cap = 0
  ·
   subst hc0
   exact Qpz hBw hb fz hg
  · exact Qzq hc0 hb
 have hl0 : c.length ≠ 0 := by simpa using h0
 obtain ⟨g, cap, cur, fz, rfl, hbg, hg, hfz, hnc, hcm, hcs, htake⟩ : ∃ g cap cur fz, v = .slice (some ⟨g, 0, none⟩) c.length cap ∧ B ≤ g ∧ w.heap[g]? = some (.cells cur 5 fz) ∧ fz.2 ≤ c.length * 1 ∧ c.length ≤ cap ∧ cap ≤ maxLen ∧ cur.size = cap * 1 ∧ _ := by
  rcases hown.2 with ⟨_, hz⟩ | ⟨g, cap, cur, fz, hv, r⟩
  · exact absurd hz hl0
  · exact ⟨g, cap, cur, fz, hv, r⟩
 have c1 := w3drew hb
 have hSD : (Builtin.unsafeSliceData_ #[51] 107 #[.slice (some ⟨g, 0, none⟩) c.length cap]).run Tryz.prog w.drew = .ok (.pointer (some ⟨g, 0, none⟩)) w.drew :=
  Lib.run_unsafeSliceData_row _ _ _ _ _ _ (by omega)
 have mixed : Tryz.prog.follows .mixedOrders = true := by kernel_rfl
 have hUS : (Builtin.unsafeString_ #[107, 3] 9 #[.pointer (some ⟨g, 0, none⟩), .int .i64 c.length]).run Tryz.prog w.drew = .ok (.string ⟨c.toArray⟩) (w.drew.freeze ⟨g, 0, none⟩ c.length) := by
  refine Lib.run_unsafeString_row w.drew 107 3 9 5 Tryz.underlying107 (by kernel_rfl) g cur.size (by have hg' : w.drew.heap[g]? = some (.cells cur 5 fz) := hg; simp [World.shape?, hg']) c h0 (by omega) (by unfold maxLen at hcm; omega) ?_
  intro j x hx
  have := hown.cells (g := g) rfl j (.int .u8 x.toNat) (by simp [Lib.byteCells, hx])
  exact this
 obtain ⟨n, hn⟩ : ∃ n, c.length = n := ⟨_, rfl⟩
 rw [hn] at c1 hSD hUS
 have HG := hide hbg
 clear h hb hown hg hne hn hfz hnc hcm hcs htake hl0 h0
 go_enter Tryz.func14, Tryz.ntmps14
 go_wp2
 go_region_o
 all_goals (go_wp2; go_ret; exact ⟨rfl, Lib.below_freeze (Below.drew (Below.refl B w)) (p := ⟨g, 0, none⟩) (Qa HG) _⟩)
end
section
section
variable {α β : Type} {e : Nat}
def Bw (R : Rs α) : Prop := ∀ w a l, R = .bad w a l → w ≠ 0
def BwP (P : Pr α) : Prop := ∀ l i, Bw (P l i)
theorem Bw.bind {R : Rs α} {f : α → Pr β} (h : Bw R) (hf : ∀ x, BwP (f x)) : Bw (R.bind f) := fun w a l hb => by
 cases R with
 | bad w2 a2 l2 => injection hb with h1 _ _; subst h1; exact h _ _ _ rfl
 | ok x l2 i2 => exact hf x l2 i2 w a l hb
theorem Bw.map {R : Rs α} {g : α → β} (h : Bw R) : Bw (R.map g) := fun w a l hb => by
 cases R with
 | bad w2 a2 l2 => injection hb with h1 _ _; subst h1; exact h _ _ _ rfl
 | ok x l2 i2 => cases hb
theorem Bw.ok {x : α} {l : List Tok} {i : Nat} : Bw (.ok x l i) := fun _ _ _ h => by cases h
theorem Bw.refuse {why : Int} (hw : why ≠ 0) {l : List Tok} {i : Nat} : Bw (refuse (α := α) e why l i) := fun _ _ _ h => by
 injection h with h1 _ _
 subst h1
 exact hw
theorem Bw.ite {p : Prop} [Decidable p] {A B : Rs α} (hA : Bw A) (hB : Bw B) : Bw (if p then A else B) := by
 split
 · exact hA
 · exact hB
theorem Qeo (s : Txt) : BwP (want e s) := fun _ _ => Bw.ite .ok (.refuse (by decide))
theorem Qia (ss : List Txt) : BwP (choose e ss) := fun _ _ => Bw.ite .ok (.refuse (by decide))
theorem Qur : BwP (nmQ e) := fun _ _ => Bw.ite .ok (.refuse (by decide))
theorem Qez : BwP (wordQ e) := fun _ _ => Bw.ite .ok (.refuse (by decide))
theorem Qqh {sep : Txt} {most : Nat} {P : Pr α} (hP : BwP P) : ∀ (f : Nat) (acc : List α), BwP (listL e sep most P f acc)
 | 0, _ => fun _ _ => .ok
 | f + 1, acc => fun l i => by
  unfold listL
  exact Bw.ite (.refuse (by decide)) (Bw.bind (hP l i) (fun _ _ _ => Bw.ite (Qqh hP f _ _ _) .ok))
theorem Qkp {sep : Txt} {most : Nat} {P : Pr α} (hP : BwP P) : BwP (listP e sep most P) := fun _ _ => Qqh hP _ _ _ _
theorem Qkn {op cl : Txt} {P : Pr α} (hP : BwP P) : BwP (encl e op cl P) := fun l i => by
 unfold encl
 exact Bw.bind (Qeo op l i) (fun _ _ _ => Bw.ite .ok (Bw.bind (Qkp hP _ _) (fun _ _ _ => Bw.map (Qeo cl _ _))))
theorem Qqg {P : Pr Ex} {ss : List Txt} (hP : BwP P) : ∀ (f : Nat) (x : Ex), BwP (joinL e P ss f x)
 | 0, _ => fun _ _ => .ok
 | f + 1, x => fun l i => by
  unfold joinL
  exact Bw.ite (Bw.bind (hP _ i) (fun _ _ _ => Qqg hP f _ _ _)) .ok
theorem Qmc {P : Pr Ex} {ss : List Txt} (hP : BwP P) : BwP (joined e P ss) := fun l i => by
 unfold joined
 exact Bw.bind (hP l i) (fun _ _ _ => Qqg hP _ _ _ _)
theorem Qus {E F : Pr Ex} (hE : BwP E) (hF : BwP F) : BwP (signed e E F) := fun l i => by
 unfold signed
 exact Bw.bind (Qia _ l i) (fun _ _ _ => Bw.ite (Bw.map (hF _ _)) (Bw.ite (Bw.bind (hE _ _) (fun _ _ _ => Bw.map (Qeo _ _ _))) (Bw.bind (Qez _ _) (fun _ _ _ => Bw.map (Qkn hE _ _)))))
theorem Quq {E F : Pr Ex} (hE : BwP E) (hF : BwP F) : BwP (factorB e E F) := fun l i => by
 unfold factorB
 exact Bw.ite .ok (Bw.ite .ok (Bw.ite (Bw.ite .ok (Bw.map (Qez _ _))) (Qus hE hF _ _)))
theorem Qsl : ∀ d, BwP (exD e d).1 ∧ BwP (exD e d).2
 | 0 => ⟨fun _ i => Bw.refuse (i := i) (by decide), fun _ i => Bw.refuse (i := i) (by decide)⟩
 | d + 1 => ⟨Qmc (Qmc (Qsl d).2), Quq (Qsl d).1 (Qsl d).2⟩
theorem Qoj (d : Nat) : BwP (atomP e d) := fun l i => by
 unfold atomP
 exact Bw.bind (Qur l i) (fun _ _ _ => Bw.map (Qkn (Qsl d).1 _ _))
theorem bw_lit (d : Nat) : BwP (litP e d) := fun l i => by
 unfold litP
 exact Bw.ite (Bw.map (Qoj d _ _)) (Bw.ite (Bw.map (Qoj d _ _)) (Bw.bind ((Qsl d).1 l i) (fun _ _ _ => Bw.bind (Qia _ _ _) (fun _ _ _ => Bw.map ((Qsl d).1 _ _)))))
theorem Qup (d : Nat) : BwP (clauseP e d) := fun l i => by
 unfold clauseP
 exact Bw.bind (Qoj d l i) (fun _ _ _ => Bw.ite (Bw.bind (Qkp (bw_lit d) _ _) (fun _ _ _ => Bw.map (Qeo _ _ _))) (Bw.map (Qeo _ _ _)))
theorem Qqf : BwP (fieldP e) := fun l i => by
 unfold fieldP
 exact Bw.bind (Qez l i) (fun _ _ _ => Bw.bind (Qeo _ _ _) (fun _ _ _ => Bw.map (Qur _ _)))
theorem bw_ctor : BwP (ctorP e) := fun l i => by
 unfold ctorP
 exact Bw.bind (Qez l i) (fun _ _ _ => Bw.map (Qkn Qqf _ _))
theorem bw_type : BwP (typeP e) := fun l i => by
 unfold typeP
 exact Bw.bind (Qez _ i) (fun _ _ _ => Bw.bind (Qia _ _ _) (fun _ _ _ => Bw.ite (Bw.map (Qur _ _)) (Bw.map (Qkp bw_ctor _ _))))
theorem Qko : ∀ (f : Nat) (a b : Bool), BwP (flagL e f a b)
 | 0, _, _ => fun _ _ => .ok
 | f + 1, a, b => fun l i => by
  unfold flagL
  exact Bw.ite (Bw.ite (Qko f _ _ _ _) (Bw.ite (Qko f _ _ _ _) .ok)) .ok
theorem bw_decl : BwP (declP e) := fun l i => by
 unfold declP
 exact Bw.bind (Qez _ i) (fun _ _ _ => Bw.bind (Qkn Qqf _ _) (fun _ _ _ => Bw.map (Qko _ _ _ _ _)))
theorem bw_init : BwP (initP e) := fun l i => by
 unfold initP
 exact Bw.bind (Qez _ i) (fun _ _ _ => Bw.bind (Qeo _ _ _) (fun _ _ _ => Bw.map (Qur _ _)))
theorem bw_comp {B : Pr Pg} (hB : BwP B) : BwP (compB e B) := fun l i => by
 unfold compB
 exact Bw.bind (Qez _ i) (fun _ _ _ => Bw.bind (Bw.ite (Qkp Qur _ _) .ok) (fun _ _ _ => Bw.bind (Qeo _ _ _) (fun _ _ _ => Bw.bind (hB _ _) (fun _ _ _ => Bw.map (Qeo _ _ _)))))
theorem bw_item {d : Nat} {C : Pr (Txt × List Txt × Pg × Int)} (hC : BwP C) (p : Pg) : BwP (itemP e d C p) := fun l i => by
 unfold itemP
 exact Bw.ite (.refuse (by decide)) (Bw.ite (Bw.map (bw_type _ _)) (Bw.ite (Bw.map (bw_decl _ _)) (Bw.ite (Bw.map (hC _ _)) (Bw.ite (Bw.map (bw_init _ _)) (Bw.map (Qup d _ _))))))
theorem Qkq {d : Nat} {top : Bool} {C : Pr (Txt × List Txt × Pg × Int)} (hC : BwP C) : ∀ (f : Nat) (p : Pg), BwP (progL e top d C f p)
 | 0, _ => fun _ _ => .ok
 | f + 1, p => fun l i => by
  unfold progL
  exact Bw.ite .ok (Bw.bind (bw_item hC p l i) (fun _ _ _ => Qkq hC f _ _ _))
theorem Qqe : ∀ d, BwP (compC e d)
 | 0 => fun _ i => Bw.refuse (i := i) (by decide)
 | d + 1 => bw_comp (fun l i => by rw [Qdc]; exact Qkq (Qqe d) _ _ _ _)
end
theorem Qef {s : Txt} {w a : Int} {l : List Tok} (h : parseP s = .bad w a l) : w ≠ 0 := by
 unfold parseP at h
 cases hl : lexP s with
 | bad w2 a2 =>
  rw [hl] at h
  have h : Rs.bad w2 (a2 : Int) [] = .bad w a l := h
  injection h with h1 _ _
  subst h1
  have := Qwq s
  rw [hl] at this
  exact this.1
 | ok toks =>
  rw [hl] at h
  have h : progD s.length 32 true toks 0 = .bad w a l := h
  rw [Qdc] at h
  exact Qkq (Qqe 32) _ _ _ _ _ _ _ h
end
section
open Go.RowKit Go.Maps
theorem cl5p {w : World} {b : Nat} {T : TypeId} {v0 v1 v2 v3 v4 : Value} (h : w.heap[b]? = some (.cells #[v0, v1, v2, v3, v4] T (0, 0))) : w.cell? ⟨b, 0, none⟩ = some v0 ∧ w.cell? ⟨b, 1, none⟩ = some v1 ∧ w.cell? ⟨b, 2, none⟩ = some v2 ∧ w.cell? ⟨b, 3, none⟩ = some v3 ∧ w.cell? ⟨b, 4, none⟩ = some v4 :=
 ⟨(Qab h 0).trans rfl, (Qab h 1).trans rfl, (Qab h 2).trans rfl, (Qab h 3).trans rfl, (Qab h 4).trans rfl⟩
theorem wr_new (w : World) (ht : Tbl w.heap.size w) : Wr w.heap.size w.heap.size [] false (w.alloc (.cells #[.pointer none, .slice none 0 0, .bool false] 55)) :=
 ⟨Nat.le_refl _, by simp, ht.below ((Below.refl _ w).alloc (Nat.le_refl _) _), _, _, heap_alloc_new w _, .inl rfl, World.ownsRowF_of (World.ownsRow_nil _ _ _ _), by simp [Value.ownBlock]⟩
theorem Jbh {p : Pg} {c : Txt} (h : WT [] false (pgT p) c true) : showP p = ([], 2) := by
 unfold showP
 by_cases hl : 65536 < (pgT p).length
 · rw [if_pos hl]
 have := (h.2.1 rfl (by simp; omega)).2
 cases this
theorem Qyp {p : Pg} {c : Txt} (h : WT [] false (pgT p) c false) : c = pgT p ∧ (pgT p).length ≤ 65536 := by
 by_cases hl : (pgT p).length ≤ 65536
 · exact ⟨by simpa using (h.2.1 rfl (by simpa using hl)).1, hl⟩
 have := h.2.2 rfl (by simp; omega)
 cases this
theorem Qsd (p : Pg) (hp : ShP p) {S : Nat → Prop} {w : World} {a0 a1 a2 a3 a4 : Option Addr} {n0 n1 n2 n3 n4 c0 c1 c2 c3 c4 : Nat} (hP : PgS S w [.slice a0 n0 c0, .slice a1 n1 c1, .slice a2 n2 c2, .slice a3 n3 c3, .slice a4 n4 c4] p) (hE : Env w) (ht : Tbl w.heap.size w) :
  Calls Tryz.prog 7 #[.agg #[.slice a0 n0 c0, .slice a1 n1 c1, .slice a2 n2 c2, .slice a3 n3 c3, .slice a4 n4 c4]] w fun en w' => en = .returned (.tuple #[str (showP p).1, .int .i64 (showP p).2]) ∧ Below w.heap.size w w' := by
 obtain ⟨w1, hw1⟩ : ∃ w1, w1 = w.alloc (.cells #[.slice a0 n0 c0, .slice a1 n1 c1, .slice a2 n2 c2, .slice a3 n3 c3, .slice a4 n4 c4] 28) := ⟨_, rfl⟩
 have b1 : Below w.heap.size w w1 := bnw hw1
 have m1 : w1.heap[w.heap.size]? = some (.cells #[.slice a0 n0 c0, .slice a1 n1 c1, .slice a2 n2 c2, .slice a3 n3 c3, .slice a4 n4 c4] 28 (0, 0)) := nnw hw1
 have z1 : w1.heap.size = w.heap.size + 1 := by rw [hw1]; simp
 obtain ⟨w2, hw2⟩ : ∃ w2, w2 = w1.alloc (.cells #[.pointer none, .slice none 0 0, .bool false] 55) := ⟨_, rfl⟩
 have b2 : Below w1.heap.size w1 w2 := bnw hw2
 have hwr := wr_new w1 ((ht.below b1).more (by omega))
 rw [← hw2] at hwr
 obtain ⟨gB, hgB⟩ : ∃ gB, gB = w1.heap.size := ⟨_, rfl⟩
 rw [← hgB] at hwr b2
 have b12 : Below w.heap.size w w2 := b1.trans (b2.mono (by omega))
 have hP1 : PgS (fun q => q < gB) w2 [.slice a0 n0 c0, .slice a1 n1 c1, .slice a2 n2 c2, .slice a3 n3 c3, .slice a4 n4 c4] p := by
  have h1 := Qao.mono _ (fun q => q < w.heap.size) _ _ _ hP (fun b hb _ => hb)
  have h2 := Qao.same _ _ w2 _ _ h1 b12.size (fun q hq _ => b12.block q hq)
  exact Qao.mono _ _ _ _ _ h2 (fun b _ hb => by show b < gB; have : b < w.heap.size := hb; omega)
 have m2 : w2.heap[w.heap.size]? = some (.cells #[.slice a0 n0 c0, .slice a1 n1 c1, .slice a2 n2 c2, .slice a3 n3 c3, .slice a4 n4 c4] 28 (0, 0)) := (b2.block _ (by omega)).trans m1
 have hpr := Qzp p hp w2 [] false _ hP1 hwr
 obtain ⟨x0, x1, x2, x3, x4⟩ := cl5p m2
 have HW := hide (Ya hw1 (Ya hw2 (Ya hgB z1)))
 have HM := hide (Ya b12 (Ya m2 hP1))
 have HE := hide hE
 have gz : w.heap.size < gB := by omega
 clear hw1 b1 m1 z1 hw2 b2 hwr hgB b12 hP1 m2 hP hE ht hp
 go_enter Tryz.func7, Tryz.ntmps7
 go_upto_region 2 with fail
 rw [← (Qa HW).1, ← (Qa HW).2.1, show w.heap.size + 1 = gB from ((Qa HW).2.2.1.trans (Qa HW).2.2.2).symm]
 go_wp2_with fail
 refine hpr.mono ?_
 clear hpr x0 x1 x2 x3 x4
 rintro en w3 ⟨rfl, k3, t3, l3, g3, e3⟩
 obtain ⟨b12, m2, hP1⟩ := Qa HM
 have m3 : w3.heap[w.heap.size]? = some (.cells #[.slice a0 n0 c0, .slice a1 n1 c1, .slice a2 n2 c2, .slice a3 n3 c3, .slice a4 n4 c4] 28 (0, 0)) := (k3.below.block _ gz).trans m2
 have b3 : Below w.heap.size w w3 := b12.trans (k3.below.mono (Nat.le_of_lt gz))
 have hP3 := Qao.same _ _ w3 _ _ hP1 k3.below.size (fun q hq _ => k3.below.block q hq)
 obtain ⟨_, _, hbx, _⟩ := g3.box
 obtain ⟨_, _, u2, _, uf⟩ := cl3w hbx
 clear hbx k3 m2 b12 hP1
 cases l3
 ·
  obtain ⟨ec, hl6⟩ := Qyp e3
  rw [ec] at g3
  have hst := Qq g3
  have HK := hide (Ya m3 (Ya b3 (Ya hP3 hl6)))
  clear m3 b3 hP3 g3 e3 ec hl6
  go_wp2_with fail
  refine hst.mono ?_
  clear hst u2 uf
  rintro en w4 ⟨rfl, b4⟩
  obtain ⟨m3, b3, hP3, hl6⟩ := Qa HK
  have m4 : w4.heap[w.heap.size]? = some (.cells #[.slice a0 n0 c0, .slice a1 n1 c1, .slice a2 n2 c2, .slice a3 n3 c3, .slice a4 n4 c4] 28 (0, 0)) := (b4.block _ gz).trans m3
  have bw4 : Below w.heap.size w w4 := b3.trans (b4.mono (Nat.le_of_lt gz))
  have hP4 := Qao.same _ _ w4 _ _ hP3 b4.size (fun q hq _ => b4.block q hq)
  have hps := Qdw ⟨(pgT p).toArray⟩ (by simp [ByteArray.size]; omega) w4 ((Qa HE).later bw4)
  rw [show (⟨(pgT p).toArray⟩ : ByteArray).data.toList = pgT p by simp, show (Value.string ⟨(pgT p).toArray⟩) = str (pgT p) from rfl] at hps
  have HK4 := hide (Ya m4 (Ya bw4 (Ya hP4 hl6)))
  clear m3 b3 hP3 hl6 m4 bw4 hP4 b4
  go_wp2_with fail
  refine hps.mono ?_
  clear hps
  intro en w5 ha
  obtain ⟨m4, bw4, hP4, hl6⟩ := Qa HK4
  cases hr : parseP (pgT p) with
  | bad why at_ l =>
   rw [hr] at ha
   obtain ⟨rfl, b5⟩ := ha
   have gw : (why == 0) = false := by simpa using Qef hr
   have gn : ¬ why = 0 := Qef hr
   have HR := hide (show showP p = ([], 1) by unfold showP; rw [if_neg (by omega), hr])
   have HB := hide (bw4.trans (b5.mono bw4.size))
   clear hr m4 bw4 hP4 hl6 b5
   go_wp2_with fail
   go_ret2
   rw [Qa HR]
   exact ⟨rfl, ((Qa HB).alloc (Qa HB).size _).alloc (by have := (Qa HB).size; simp; omega) _⟩
  | ok q l i =>
   rw [hr] at ha
   obtain ⟨v, rfl, ⟨d0, k0, f0, d1, k1, f1, d2, k2, f2, d3, k3, f3, d4, k4, f4, rfl, hQ⟩, b5⟩ := ha
   obtain ⟨w6, hw6⟩ : ∃ w6, w6 = (w5.alloc (.cells #[.slice d0 k0 f0, .slice d1 k1 f1, .slice d2 k2 f2, .slice d3 k3 f3, .slice d4 k4 f4] 28)).alloc (.cells #[.int .i64 0, .int .i64 0] 31) := ⟨_, rfl⟩
   have b6 : Below w5.heap.size w5 w6 := by rw [hw6]; exact ((Below.refl _ w5).alloc (Nat.le_refl _) _).alloc (by simp) _
   have bw5 := bw4.trans (b5.mono bw4.size)
   have bw6 := bw5.trans (b6.mono bw5.size)
   have m6 : w6.heap[w.heap.size]? = some (.cells #[.slice a0 n0 c0, .slice a1 n1 c1, .slice a2 n2 c2, .slice a3 n3 c3, .slice a4 n4 c4] 28 (0, 0)) := (b6.block _ (Nat.lt_of_lt_of_le (Qag m4) b5.size)).trans ((b5.block _ (Qag m4)).trans m4)
   obtain ⟨x0, x1, x2, x3, x4⟩ := cl5p m6
   have q6 : PgS (fun _ => True) w6 [.slice d0 k0 f0, .slice d1 k1 f1, .slice d2 k2 f2, .slice d3 k3 f3, .slice d4 k4 f4] q :=
    Qao.mono _ _ _ _ _ (Qao.same _ _ w6 _ _ hQ b6.size (fun b _ hb => b6.block b hb)) (fun _ _ _ => trivial)
   have p5 := Qao.same _ _ w5 _ _ (Qao.mono _ (fun q => q < w4.heap.size) _ _ _ hP4 (fun b hb _ => hb)) b5.size (fun q hq _ => b5.block q hq)
   have p6 : PgS (fun _ => True) w6 [.slice a0 n0 c0, .slice a1 n1 c1, .slice a2 n2 c2, .slice a3 n3 c3, .slice a4 n4 c4] p :=
    Qao.mono _ _ _ _ _ (Qao.same _ _ w6 _ _ p5 b6.size (fun b _ hb => b6.block b hb)) (fun _ _ _ => trivial)
   have hsm := Qjw q p _ w6 _ _ _ _ _ _ _ _ _ _ q6 p6
   rw [hw6] at x0 x1 x2 x3 x4 hsm
   have HB := hide (Ya bw6 hw6)
   obtain ⟨r, hrr⟩ : ∃ r, eqPg q p = r := ⟨_, rfl⟩
   rw [hrr] at hsm
   have HR := hide (show showP p = if r = true then (pgT p, 0) else ([], 1) by unfold showP; rw [if_neg (by omega), hr]; simp only; rw [hrr])
   clear hr m4 bw4 hP4 hl6 b5 hw6 b6 bw5 bw6 m6 q6 p5 p6 hrr hQ
   go_wp2_with fail
   refine hsm.mono ?_
   clear hsm x0 x1 x2 x3 x4
   rintro en w7 ⟨rfl, b7⟩
   have HB7 := hide (show Below w.heap.size w w7 by
    obtain ⟨bw6, hw6⟩ := Qa HB
    rw [← hw6] at b7
    exact bw6.trans (b7.mono bw6.size))
   clear b7
   cases r
   ·
    go_wp2_with fail
    go_ret2
    rw [Qa HR]
    exact ⟨rfl, Qa HB7⟩
   go_wp2_with fail
   go_ret2
   rw [Qa HR]
   exact ⟨rfl, Qa HB7⟩
 have HR := hide (Ya (Jbh e3) b3)
 clear m3 b3 hP3 g3 e3
 go_wp2_with fail
 go_ret2
 rw [(Qa HR).1]
 exact ⟨rfl, (Qa HR).2⟩
end
section
open Go.RowKit Go.Maps
theorem Qtb (s : ByteArray) (hs : s.size ≤ 140737488355328) (w : World) (hE : Env w) (ht : Tbl w.heap.size w) :
  Calls Tryz.prog 10 #[.string s] w fun en w' => en = .returned (.tuple #[str (formatP s.data.toList).1, .agg #[.int .i64 (formatP s.data.toList).2.1, .int .i64 (formatP s.data.toList).2.2]]) ∧ Below w.heap.size w w' := by
 obtain ⟨w1, hw1⟩ : ∃ w1, w1 = w.alloc (.cells #[.int .i64 0, .int .i64 0] 31) := ⟨_, rfl⟩
 have b1 : Below w.heap.size w w1 := bnw hw1
 have m1 : w1.heap[w.heap.size]? = some (.cells #[.int .i64 0, .int .i64 0] 31 (0, 0)) := nnw hw1
 have hps := Qdw s (by omega) w1 (hE.later b1)
 have HE := hide (Ya hE ht)
 have HB := hide (Ya b1 m1)
 have HW := hide hw1
 clear hE ht b1 m1 hw1
 go_enter Tryz.func10, Tryz.ntmps10
 go_upto_region 1 with fail
 rw [← Qa HW]
 go_wp2_with fail
 refine hps.mono ?_
 clear hps
 intro en w2 ha
 obtain ⟨b1, m1⟩ := Qa HB
 cases hr : parseP s.data.toList with
 | bad why at_ l =>
  rw [hr] at ha
  obtain ⟨rfl, b2⟩ := ha
  have gw : (why == 0) = false := by simpa using Qef hr
  have gn : ¬ why = 0 := Qef hr
  have HR := hide (show formatP s.data.toList = ([], why, at_) by unfold formatP; rw [hr])
  have bw := b1.trans (b2.mono b1.size)
  have m2 : w2.heap[w.heap.size]? = some (.cells #[.int .i64 0, .int .i64 0] 31 (0, 0)) := (b2.block _ (Qag m1)).trans m1
  have hl2 := Qag m2
  obtain ⟨w3, hw3⟩ : ∃ w3, w3 = (w2.alloc (.cells #[.slice none 0 0, .slice none 0 0, .slice none 0 0, .slice none 0 0, .slice none 0 0] 28)).alloc (.cells #[.int .i64 why, .int .i64 at_] 31) := ⟨_, rfl⟩
  have b3 : Below w2.heap.size w2 w3 := by rw [hw3]; exact ((Below.refl _ w2).alloc (Nat.le_refl _) _).alloc (by simp) _
  have m3 : w3.heap[w.heap.size]? = some (.cells #[.int .i64 0, .int .i64 0] 31 (0, 0)) := (b3.block _ hl2).trans m2
  have n3 : w3.heap[w2.heap.size + 1]? = some (.cells #[.int .i64 why, .int .i64 at_] 31 (0, 0)) := by
   rw [hw3]
   have := heap_alloc_new (w2.alloc (.cells #[.slice none 0 0, .slice none 0 0, .slice none 0 0, .slice none 0 0, .slice none 0 0] 28)) (.cells #[.int .i64 why, .int .i64 at_] 31)
   simpa using this
  obtain ⟨x0, x1, xf⟩ := cl2 m3
  obtain ⟨y0, y1, yf⟩ := cl2 n3
  have HW3 := hide hw3
  have HB3 := hide (bw.trans (b3.mono bw.size))
  clear b1 m1 b2 m2 bw b3 n3 hw3
  have HZ := hide (show ((w3.setCell ⟨w.heap.size, 0, none⟩ (.int .i64 why)).setCell ⟨w.heap.size, 1, none⟩ (.int .i64 at_)).heap[w.heap.size]? = some (.cells #[.int .i64 why, .int .i64 at_] 31 (0, 0)) from (Qad (Qad m3 0 _) 1 _).trans rfl)
  clear m3
  go_upto_region 3 with fail
  rw [← Qa HW3]
  go_region
  go_wp2_with fail
  obtain ⟨z0, z1, _⟩ := cl2 (Qa HZ)
  refine bodyPost_ret (v := .tuple #[.string ⟨#[]⟩, .agg #[.int .i64 why, .int .i64 at_]]) (by simp [results, Tryz.results10, go_sem, z0, z1]) rfl ?_
  rw [Qa HR]
  exact ⟨rfl, Below.drew (((Qa HB3).setCell (p := ⟨w.heap.size, 0, none⟩) (Nat.le_refl _) _).setCell (p := ⟨w.heap.size, 1, none⟩) (Nat.le_refl _) _)⟩
 | ok p l i =>
  rw [hr] at ha
  obtain ⟨v, rfl, ⟨d0, k0, f0, d1, k1, f1, d2, k2, f2, d3, k3, f3, d4, k4, f4, rfl, hQ⟩, b2⟩ := ha
  have bw := b1.trans (b2.mono b1.size)
  have m2 : w2.heap[w.heap.size]? = some (.cells #[.int .i64 0, .int .i64 0] 31 (0, 0)) := (b2.block _ (Qag m1)).trans m1
  have hl2 := Qag m2
  obtain ⟨w3, hw3⟩ : ∃ w3, w3 = (w2.alloc (.cells #[.slice d0 k0 f0, .slice d1 k1 f1, .slice d2 k2 f2, .slice d3 k3 f3, .slice d4 k4 f4] 28)).alloc (.cells #[.int .i64 0, .int .i64 0] 31) := ⟨_, rfl⟩
  have b3 : Below w2.heap.size w2 w3 := by rw [hw3]; exact ((Below.refl _ w2).alloc (Nat.le_refl _) _).alloc (by simp) _
  have m3 : w3.heap[w.heap.size]? = some (.cells #[.int .i64 0, .int .i64 0] 31 (0, 0)) := (b3.block _ hl2).trans m2
  have q3 := Qao.same _ _ w3 _ _ hQ b3.size (fun b _ hb => b3.block b hb)
  have bw3 := bw.trans (b3.mono bw.size)
  have hsh := Qsd p (Qrw hr) q3 ((Qa HE).1.later bw3) (((Qa HE).2.below bw3).more bw3.size)
  rw [hw3] at hsh
  have HR := hide (show formatP s.data.toList = ((showP p).1, (showP p).2, 0) by unfold formatP; rw [hr])
  have HB3 := hide (Ya bw3 (Ya m3 hw3))
  clear b1 m1 b2 m2 bw hl2 hw3 b3 m3 q3 bw3 hr hQ
  obtain ⟨t, ht⟩ : ∃ t, (showP p).1 = t := ⟨_, rfl⟩
  obtain ⟨e, he⟩ : ∃ e, (showP p).2 = e := ⟨_, rfl⟩
  rw [ht, he] at hsh
  have HT := hide (Ya ht he)
  clear ht he
  go_wp2_with fail
  refine hsh.mono ?_
  clear hsh
  rintro en w4 ⟨rfl, b4⟩
  obtain ⟨bw3, m3, hw3⟩ := Qa HB3
  rw [← hw3] at b4
  have m4 : w4.heap[w.heap.size]? = some (.cells #[.int .i64 0, .int .i64 0] 31 (0, 0)) := (b4.block _ (Qag m3)).trans m3
  have HZ := hide (show ((w4.setCell ⟨w.heap.size, 0, none⟩ (.int .i64 e)).setCell ⟨w.heap.size, 1, none⟩ (.int .i64 0)).heap[w.heap.size]? = some (.cells #[.int .i64 e, .int .i64 0] 31 (0, 0)) from (Qad (Qad m4 0 _) 1 _).trans rfl)
  have HB4 := hide (bw3.trans (b4.mono bw3.size))
  obtain ⟨x0, x1, xf⟩ := cl2 m4
  clear bw3 m3 hw3 b4 m4 HB3
  go_wp2_with fail
  obtain ⟨z0, z1, _⟩ := cl2 (Qa HZ)
  refine bodyPost_ret (v := .tuple #[str t, .agg #[.int .i64 e, .int .i64 0]]) (by simp [results, Tryz.results10, go_sem, z0, z1]) rfl ?_
  rw [Qa HR, (Qa HT).1, (Qa HT).2]
  exact ⟨rfl, ((Qa HB4).setCell (p := ⟨w.heap.size, 0, none⟩) (Nat.le_refl _) _).setCell (p := ⟨w.heap.size, 1, none⟩) (Nat.le_refl _) _⟩
end
section
open Go.RowKit Go.Maps
theorem cellsTab : Tryz.prog.cellsOf 242 = 20 := by kernel_rfl
theorem cellsU64 : Tryz.prog.cellsOf 221 = 1 := by kernel_rfl
theorem powD : Rows.laid_internal_strconv_uint64pow10 = (Lib.tabData .u64 Lib.pow10Tab : DataW Unit) := by kernel_rfl
theorem Jdj {W : World} (h : laidMetH Tryz.prog Rows.showAgainRow.laid W) : Lib.TabIs Tryz.prog W "internal/strconv.uint64pow10" .u64 Lib.pow10Tab := by
 rw [MakeChecks.laidMetH_plain _ _ _ (by kernel_rfl)] at h
 have h2 : laidMet Tryz.prog (("internal/strconv.uint64pow10", Rows.laid_internal_strconv_uint64pow10) :: [("strconv.ErrRange", Rows.laid_strconv_ErrRange), ("strconv.ErrSyntax", Rows.laid_strconv_ErrSyntax), ("vestry/lex.heads", Rows.laid_vestry_lex_heads), ("vestry/lex.signs", Rows.laid_vestry_lex_signs)]) W := laidMet.tail (laidMet.tail h)
 rw [powD] at h2
 exact Lib.tabIs_of_head (g := 5) (by kernel_rfl) (by kernel_rfl) Tryz.underlying242 Tryz.underlying221 cellsU64 cellsTab h2
theorem tbl_of {W : World} (h : laidMetH Tryz.prog Rows.showAgainRow.laid W) : Tbl W.heap.size W := by
 refine ⟨Jdj h, fun g hg => ?_⟩
 have ht := Jdj h
 unfold Lib.TabIs World.var? at ht
 rw [hg] at ht
 simp only [Option.bind_some] at ht
 rcases Nat.lt_or_ge g W.heap.size with hl | hl
 · exact hl
 rw [Array.getElem?_eq_none hl] at ht
 cases ht
def liveS : ByteArray := ⟨#[112, 40, 120, 41, 58, 45, 101, 40, 120, 44, 121, 41, 44, 120, 60, 49, 43, 50, 42, 121, 46]⟩
def liveT : Txt := [112, 40, 120, 41, 32, 58, 45, 32, 101, 40, 120, 44, 32, 121, 41, 44, 32, 120, 32, 60, 32, 49, 32, 43, 32, 40, 50, 32, 42, 32, 121, 41, 46, 10]
theorem Qoz : formatP liveS.data.toList = (liveT, 0, 0) := by kernel_rfl
theorem Qfv (w : World) (hE : Env w) (ht : Tbl w.heap.size w) : Calls Tryz.prog 6 #[] w fun en w' => en = .returned (.bool true) ∧ Below w.heap.size w w' := by
 have hf := Qtb liveS (by decide) w hE ht
 rw [Qoz] at hf
 unfold liveS at hf
 go_enter Tryz.func6, Tryz.ntmps6
 go_wp2_with fail
 refine hf.mono ?_
 clear hf
 rintro en w2 ⟨rfl, b2⟩
 have HB := hide b2
 clear b2 hE ht
 simp only [liveT]
 go_wp2_with fail
 go_ret
 exact ⟨by simp [str], (Qa HB).alloc (Qa HB).size _⟩
end
end Go.Proofs.YtccehgfecaamoaaGreatDoor
