/- The plain reading: how many items have begun; what is taken. syn: comp, what it stores. syn: a component with bases. -/
import Derived.Test.YtccehgfecaamoaaGreatDoorQb06
import Derived.Test.YtccehgfecaamoaaGreatDoorQb14
import Derived.Deep.WholeRow
set_option maxRecDepth 100000
set_option maxHeartbeats 32000000
namespace Go.Proofs.YtccehgfecaamoaaGreatDoor
section
/-- No item begins. -/
def IK {α : Type} (p : Pr α) : Prop := ∀ l i x l' i', p l i = .ok x l' i' → i' = i
section
variable {e : Nat}
theorem Qdi (s : Txt) : IK (want e s) := fun l i x l' i' h => by
 unfold want at h
 split at h
 · cases h; rfl
 · cases h
theorem Qih (ss : List Txt) : IK (choose e ss) := fun l i x l' i' h => by
 unfold choose at h
 split at h
 · cases h; rfl
 · cases h
theorem Qte : IK (nmQ e) := fun l i x l' i' h => by
 unfold nmQ at h
 split at h
 · cases h; rfl
 · cases h
theorem Qdz : IK (wordQ e) := fun l i x l' i' h => by
 unfold wordQ at h
 split at h
 · cases h; rfl
 · cases h
theorem Qmu {α : Type} (why : Int) : IK (refuse (α := α) e why) := fun l i x l' i' h => by cases h
theorem Qqz {α : Type} {sep : Txt} {most : Nat} {p : Pr α} (hp : IK p) : ∀ f acc, IK (listL e sep most p f acc)
 | 0, acc, l, i, x, l', i', h => by cases h; rfl
 | f + 1, acc, l, i, x, l', i', h => by
  unfold listL at h
  split at h
  · cases h
  obtain ⟨a, l1, i1, h1, h2⟩ := Qaj h
  have g1 := hp _ _ _ _ _ h1
  split at h2
  ·
   have := Qqz hp f _ _ _ _ _ _ h2
   omega
  · cases h2; exact g1
theorem Qii {α : Type} {sep : Txt} {most : Nat} {p : Pr α} (hp : IK p) : IK (listP e sep most p) := fun _ _ _ _ _ h => Qqz hp _ _ _ _ _ _ _ h
theorem Qle {α : Type} {op cl : Txt} {p : Pr α} (hp : IK p) : IK (encl e op cl p) := fun l i x l' i' h => by
 unfold encl at h
 obtain ⟨a, l1, i1, h1, h2⟩ := Qaj h
 have g1 := Qdi _ _ _ _ _ _ h1
 split at h2
 ·
  cases h2
  omega
 obtain ⟨b, l2, i2, h3, h4⟩ := Qaj h2
 have g2 := Qii hp _ _ _ _ _ h3
 obtain ⟨c, h5, _⟩ := Qas h4
 have g3 := Qdi _ _ _ _ _ _ h5
 omega
theorem Qqy {p : Pr Ex} {ss : List Txt} (hp : IK p) : ∀ f x, IK (joinL e p ss f x)
 | 0, x, l, i, y, l', i', h => by cases h; rfl
 | f + 1, x, l, i, y, l', i', h => by
  unfold joinL at h
  split at h
  ·
   obtain ⟨a, l1, i1, h1, h2⟩ := Qaj h
   have g1 := hp _ _ _ _ _ h1
   have g2 := Qqy hp f _ _ _ _ _ _ h2
   omega
  · cases h; rfl
theorem Qmt {p : Pr Ex} {ss : List Txt} (hp : IK p) : IK (joined e p ss) := fun l i x l' i' h => by
 unfold joined at h
 obtain ⟨a, l1, i1, h1, h2⟩ := Qaj h
 have g1 := hp _ _ _ _ _ h1
 have g2 := Qqy hp _ _ _ _ _ _ _ h2
 omega
theorem Qwn {E F : Pr Ex} (hE : IK E) (hF : IK F) : IK (signed e E F) := fun l i x l' i' h => by
 unfold signed at h
 obtain ⟨a, l1, i1, h1, h2⟩ := Qaj h
 have g1 := Qih _ _ _ _ _ _ h1
 split at h2
 ·
  obtain ⟨b, h3, _⟩ := Qas h2
  have := hF _ _ _ _ _ h3
  omega
 split at h2
 ·
  obtain ⟨b, l2, i2, h3, h4⟩ := Qaj h2
  obtain ⟨c, h5, _⟩ := Qas h4
  have g2 := hE _ _ _ _ _ h3
  have g3 := Qdi _ _ _ _ _ _ h5
  omega
 obtain ⟨b, l2, i2, h3, h4⟩ := Qaj h2
 obtain ⟨c, h5, _⟩ := Qas h4
 have g2 := Qdz _ _ _ _ _ h3
 have g3 := Qle hE _ _ _ _ _ h5
 omega
theorem Qwm {E F : Pr Ex} (hE : IK E) (hF : IK F) : IK (factorB e E F) := fun l i x l' i' h => by
 unfold factorB at h
 split at h
 · cases h; rfl
 split at h
 · cases h; rfl
 split at h
 ·
  split at h
  · cases h; rfl
  obtain ⟨b, h3, _⟩ := Qas h
  exact Qdz _ _ _ _ _ h3
 · exact Qwn hE hF _ _ _ _ _ h
theorem Qtd : ∀ d, IK (exD e d).1 ∧ IK (exD e d).2
 | 0 => ⟨Qmu 4, Qmu 4⟩
 | d + 1 => ⟨Qmt (Qmt (Qtd d).2), Qwm (Qtd d).1 (Qtd d).2⟩
theorem Qow (d : Nat) : IK (atomP e d) := fun l i x l' i' h => by
 unfold atomP at h
 obtain ⟨a, l1, i1, h1, h2⟩ := Qaj h
 obtain ⟨b, h3, _⟩ := Qas h2
 have g1 := Qte _ _ _ _ _ h1
 have g2 := Qle (Qtd d).1 _ _ _ _ _ h3
 omega
theorem ik_lit (d : Nat) : IK (litP e d) := fun l i x l' i' h => by
 unfold litP at h
 split at h
 ·
  obtain ⟨b, h3, _⟩ := Qas h
  have := Qow d _ _ _ _ _ h3
  omega
 split at h
 ·
  obtain ⟨b, h3, _⟩ := Qas h
  exact Qow d _ _ _ _ _ h3
 obtain ⟨a, l1, i1, h1, h2⟩ := Qaj h
 obtain ⟨b, l2, i2, h3, h4⟩ := Qaj h2
 obtain ⟨c, h5, _⟩ := Qas h4
 have g1 := (Qtd d).1 _ _ _ _ _ h1
 have g2 := Qih _ _ _ _ _ _ h3
 have g3 := (Qtd d).1 _ _ _ _ _ h5
 omega
theorem Qqx : IK (fieldP e) := fun l i x l' i' h => by
 unfold fieldP at h
 obtain ⟨a, l1, i1, h1, h2⟩ := Qaj h
 obtain ⟨b, l2, i2, h3, h4⟩ := Qaj h2
 obtain ⟨c, h5, _⟩ := Qas h4
 have g1 := Qdz _ _ _ _ _ h1
 have g2 := Qdi _ _ _ _ _ _ h3
 have g3 := Qte _ _ _ _ _ h5
 omega
theorem ik_ctor : IK (ctorP e) := fun l i x l' i' h => by
 unfold ctorP at h
 obtain ⟨a, l1, i1, h1, h2⟩ := Qaj h
 obtain ⟨b, h3, _⟩ := Qas h2
 have g1 := Qdz _ _ _ _ _ h1
 have g2 := Qle Qqx _ _ _ _ _ h3
 omega
theorem Qwl (d : Nat) : IK (clauseP e d) := fun l i x l' i' h => by
 unfold clauseP at h
 obtain ⟨a, l1, i1, h1, h2⟩ := Qaj h
 have g1 := Qow d _ _ _ _ _ h1
 split at h2
 ·
  obtain ⟨b, l2, i2, h3, h4⟩ := Qaj h2
  obtain ⟨c, h5, _⟩ := Qas h4
  have g2 := Qii (ik_lit d) _ _ _ _ _ h3
  have g3 := Qdi _ _ _ _ _ _ h5
  omega
 obtain ⟨c, h5, _⟩ := Qas h2
 have g3 := Qdi _ _ _ _ _ _ h5
 omega
theorem ik_type : IK (typeP e) := fun l i x l' i' h => by
 unfold typeP at h
 obtain ⟨a, l1, i1, h1, h2⟩ := Qaj h
 obtain ⟨b, l2, i2, h3, h4⟩ := Qaj h2
 have g1 := Qdz _ _ _ _ _ h1
 have g2 := Qih _ _ _ _ _ _ h3
 split at h4
 ·
  obtain ⟨c, h5, _⟩ := Qas h4
  have g3 := Qte _ _ _ _ _ h5
  omega
 obtain ⟨c, h5, _⟩ := Qas h4
 have g3 := Qii ik_ctor _ _ _ _ _ h5
 omega
theorem Qlf : ∀ f a b, IK (flagL e f a b)
 | 0, a, b, l, i, x, l', i', h => by cases h; rfl
 | f + 1, a, b, l, i, x, l', i', h => by
  unfold flagL at h
  split at h
  ·
   split at h
   · exact Qlf f _ _ _ _ _ _ _ h
   split at h
   · exact Qlf f _ _ _ _ _ _ _ h
   · cases h; rfl
  · cases h; rfl
theorem Qix : ∀ f a b, Shr (flagL e f a b)
 | 0, a, b, l, i, x, l', i', h => by cases h; exact Nat.le_refl _
 | f + 1, a, b, l, i, x, l', i', h => by
  have hd := Qby l
  unfold flagL at h
  split at h
  ·
   split at h
   · exact Nat.le_trans (Qix f _ _ _ _ _ _ _ h) hd
   split at h
   · exact Nat.le_trans (Qix f _ _ _ _ _ _ _ h) hd
   · cases h; exact Nat.le_refl _
  · cases h; exact Nat.le_refl _
theorem ik_decl : IK (declP e) := fun l i x l' i' h => by
 unfold declP at h
 obtain ⟨a, l1, i1, h1, h2⟩ := Qaj h
 obtain ⟨b, l2, i2, h3, h4⟩ := Qaj h2
 obtain ⟨c, h5, _⟩ := Qas h4
 have g1 := Qdz _ _ _ _ _ h1
 have g2 := Qle Qqx _ _ _ _ _ h3
 have g3 := Qlf _ _ _ _ _ _ _ _ h5
 omega
theorem ik_init : IK (initP e) := fun l i x l' i' h => by
 unfold initP at h
 obtain ⟨a, l1, i1, h1, h2⟩ := Qaj h
 obtain ⟨b, l2, i2, h3, h4⟩ := Qaj h2
 obtain ⟨c, h5, _⟩ := Qas h4
 have g1 := Qdz _ _ _ _ _ h1
 have g2 := Qdi _ _ _ _ _ _ h3
 have g3 := Qte _ _ _ _ _ h5
 omega
/-- Something is taken. -/
def Sst {α : Type} (p : Pr α) : Prop := ∀ l i x l' i', p l i = .ok x l' i' → l'.length < l.length
theorem Qvb {l : List Tok} (h : l ≠ []) : (l.drop 1).length < l.length := by
 cases l with
 | nil => exact absurd rfl h
 | cons t l => simp
theorem sst_nm : Sst (nmQ e) := fun l i x l' i' h => by
 unfold nmQ at h
 split at h
 · next hk => cases h; exact Qvb (fun e => by subst e; simp [ahd] at hk)
 · cases h
theorem Qhv : Sst (wordQ e) := fun l i x l' i' h => by
 unfold wordQ at h
 split at h
 · next hk => cases h; exact Qvb (fun e => by subst e; simp [ahd, isW1] at hk)
 · cases h
theorem Jbi (d : Nat) : Sst (atomP e d) := fun l i x l' i' h => by
 unfold atomP at h
 obtain ⟨a, l1, i1, h1, h2⟩ := Qaj h
 obtain ⟨b, h3, _⟩ := Qas h2
 have g1 := sst_nm _ _ _ _ _ h1
 have g2 := Qgl (Qfi d).1 _ _ _ _ _ h3
 omega
theorem Qtt (d : Nat) : Sst (clauseP e d) := fun l i x l' i' h => by
 unfold clauseP at h
 obtain ⟨a, l1, i1, h1, h2⟩ := Qaj h
 have g1 := Jbi d _ _ _ _ _ h1
 split at h2
 ·
  obtain ⟨b, l2, i2, h3, h4⟩ := Qaj h2
  obtain ⟨c, h5, _⟩ := Qas h4
  have g2 := Qht (Qyo d) _ _ _ _ _ h3
  have g3 := Qde _ _ _ _ _ _ h5
  have := Qby l1
  omega
 obtain ⟨c, h5, _⟩ := Qas h2
 have g3 := Qde _ _ _ _ _ _ h5
 omega
theorem Jbl : Sst (typeP e) := fun l i x l' i' h => by
 unfold typeP at h
 obtain ⟨a, l1, i1, h1, h2⟩ := Qaj h
 obtain ⟨b, l2, i2, h3, h4⟩ := Qaj h2
 have g1 := Qhv _ _ _ _ _ h1
 have g2 := Qgw _ _ _ _ _ _ h3
 have := Qby l
 split at h4
 ·
  obtain ⟨c, h5, _⟩ := Qas h4
  have g3 := Qjx _ _ _ _ _ h5
  omega
 obtain ⟨c, h5, _⟩ := Qas h4
 have g3 := Qht Qsf _ _ _ _ _ h5
 omega
theorem Jbj : Sst (declP e) := fun l i x l' i' h => by
 unfold declP at h
 obtain ⟨a, l1, i1, h1, h2⟩ := Qaj h
 obtain ⟨b, l2, i2, h3, h4⟩ := Qaj h2
 obtain ⟨c, h5, _⟩ := Qas h4
 have g1 := Qhv _ _ _ _ _ h1
 have g2 := Qgl Qgm _ _ _ _ _ h3
 have g3 := Qix _ _ _ _ _ _ _ _ h5
 have := Qby l
 omega
theorem Jbk : Sst (initP e) := fun l i x l' i' h => by
 unfold initP at h
 obtain ⟨a, l1, i1, h1, h2⟩ := Qaj h
 obtain ⟨b, l2, i2, h3, h4⟩ := Qaj h2
 obtain ⟨c, h5, _⟩ := Qas h4
 have g1 := Qhv _ _ _ _ _ h1
 have g2 := Qde _ _ _ _ _ _ h3
 have g3 := Qjx _ _ _ _ _ h5
 have := Qby l
 omega
/-- A component, where d more may be begun. -/
def compC (e : Nat) : Nat → Pr (Txt × List Txt × Pg × Int)
 | 0 => refuse e 4
 | d + 1 => compB e (progD e d false)
theorem Qdc (d : Nat) (top : Bool) (l : List Tok) (i : Nat) : progD e d top l i = progL e top d (compC e d) (l.length + 1) .none l i := by cases d <;> rfl
def Gr {α : Type} (p : Pr α) : Prop := ∀ l i x l' i', p l i = .ok x l' i' → l'.length ≤ l.length ∧ i ≤ i' ∧ (i ≤ 96 → i' ≤ 96)
def GrS {α : Type} (p : Pr α) : Prop := ∀ l i x l' i', p l i = .ok x l' i' → l'.length < l.length ∧ i ≤ i' ∧ (i ≤ 96 → i' ≤ 96)
/-- The lists of a program are no longer than n. -/
def Few (p : Pg) (n : Nat) : Prop := p.types.length ≤ n ∧ p.decls.length ≤ n ∧ p.comps.length ≤ n ∧ p.inits.length ≤ n ∧ p.clauses.length ≤ n
theorem Qwb {p : Pg} {n m : Nat} (h : Few p n) (hm : n + 1 ≤ m) (x : Typ) : Few (.mk (p.types ++ [x]) p.decls p.comps p.inits p.clauses) m := by
 obtain ⟨f0, f1, f2, f3, f4⟩ := h
 exact ⟨by show (p.types ++ [x]).length ≤ m; rw [List.length_append, List.length_singleton]; omega, Nat.le_trans f1 (by omega), Nat.le_trans f2 (by omega), Nat.le_trans f3 (by omega), Nat.le_trans f4 (by omega)⟩
theorem Qw {p : Pg} {n m : Nat} (h : Few p n) (hm : n + 1 ≤ m) (x : Dcl) : Few (.mk p.types (p.decls ++ [x]) p.comps p.inits p.clauses) m := by
 obtain ⟨f0, f1, f2, f3, f4⟩ := h
 exact ⟨Nat.le_trans f0 (by omega), by show (p.decls ++ [x]).length ≤ m; rw [List.length_append, List.length_singleton]; omega, Nat.le_trans f2 (by omega), Nat.le_trans f3 (by omega), Nat.le_trans f4 (by omega)⟩
theorem Qvz {p : Pg} {n m : Nat} (h : Few p n) (hm : n + 1 ≤ m) (x : (Txt × List Txt × Pg × Int)) : Few (.mk p.types p.decls (p.comps ++ [x]) p.inits p.clauses) m := by
 obtain ⟨f0, f1, f2, f3, f4⟩ := h
 exact ⟨Nat.le_trans f0 (by omega), Nat.le_trans f1 (by omega), by show (p.comps ++ [x]).length ≤ m; rw [List.length_append, List.length_singleton]; omega, Nat.le_trans f3 (by omega), Nat.le_trans f4 (by omega)⟩
theorem Qwa {p : Pg} {n m : Nat} (h : Few p n) (hm : n + 1 ≤ m) (x : Ini) : Few (.mk p.types p.decls p.comps (p.inits ++ [x]) p.clauses) m := by
 obtain ⟨f0, f1, f2, f3, f4⟩ := h
 exact ⟨Nat.le_trans f0 (by omega), Nat.le_trans f1 (by omega), Nat.le_trans f2 (by omega), by show (p.inits ++ [x]).length ≤ m; rw [List.length_append, List.length_singleton]; omega, Nat.le_trans f4 (by omega)⟩
theorem Qov {p : Pg} {n m : Nat} (h : Few p n) (hm : n + 1 ≤ m) (x : Cls) : Few (.mk p.types p.decls p.comps p.inits (p.clauses ++ [x])) m := by
 obtain ⟨f0, f1, f2, f3, f4⟩ := h
 exact ⟨Nat.le_trans f0 (by omega), Nat.le_trans f1 (by omega), Nat.le_trans f2 (by omega), Nat.le_trans f3 (by omega), by show (p.clauses ++ [x]).length ≤ m; rw [List.length_append, List.length_singleton]; omega⟩
theorem Qlg {d : Nat} {C : Pr (Txt × List Txt × Pg × Int)} (hC : GrS C) {p q : Pg} {l l' : List Tok} {i i' : Nat} (h : itemP e d C p l i = .ok q l' i') : l'.length < l.length ∧ i < i' ∧ (i ≤ 96 → i' ≤ 96) ∧ (Few p i → Few q i') := by
 unfold itemP at h
 split at h
 · cases h
 split at h
 ·
  obtain ⟨x, h1, rfl⟩ := Qas h
  have g1 := Jbl _ _ _ _ _ h1
  have g2 := ik_type _ _ _ _ _ h1
  exact ⟨g1, by omega, by omega, fun hf => Qwb hf (by omega) x⟩
 split at h
 ·
  obtain ⟨x, h1, rfl⟩ := Qas h
  have g1 := Jbj _ _ _ _ _ h1
  have g2 := ik_decl _ _ _ _ _ h1
  exact ⟨g1, by omega, by omega, fun hf => Qw hf (by omega) x⟩
 split at h
 ·
  obtain ⟨x, h1, rfl⟩ := Qas h
  obtain ⟨g1, g2, g3⟩ := hC _ _ _ _ _ h1
  exact ⟨g1, by omega, by omega, fun hf => Qvz hf (by omega) x⟩
 split at h
 ·
  obtain ⟨x, h1, rfl⟩ := Qas h
  have g1 := Jbk _ _ _ _ _ h1
  have g2 := ik_init _ _ _ _ _ h1
  exact ⟨g1, by omega, by omega, fun hf => Qwa hf (by omega) x⟩
 obtain ⟨x, h1, rfl⟩ := Qas h
 have g1 := Qtt _ _ _ _ _ _ h1
 have g2 := Qwl _ _ _ _ _ _ h1
 exact ⟨g1, by omega, by omega, fun hf => Qov hf (by omega) x⟩
theorem Qrz {d : Nat} {top : Bool} {C : Pr (Txt × List Txt × Pg × Int)} (hC : GrS C) : ∀ f p, Gr (progL e top d C f p)
 | 0, p, l, i, x, l', i', h => by cases h; exact ⟨Nat.le_refl _, Nat.le_refl _, fun h => h⟩
 | f + 1, p, l, i, x, l', i', h => by
  unfold progL at h
  split at h
  · cases h; exact ⟨Nat.le_refl _, Nat.le_refl _, fun h => h⟩
  obtain ⟨a, l1, i1, h1, h2⟩ := Qaj h
  obtain ⟨g1, g2, g3, _⟩ := Qlg hC h1
  obtain ⟨k1, k2, k3⟩ := Qrz hC f _ _ _ _ _ _ h2
  exact ⟨by omega, by omega, fun hi => k3 (g3 hi)⟩
theorem comp_gr {B : Pr Pg} (hB : Gr B) : GrS (compB e B) := fun l i x l' i' h => by
 unfold compB at h
 obtain ⟨a, l1, i1, h1, h2⟩ := Qaj h
 obtain ⟨b, l2, i2, h3, h4⟩ := Qaj h2
 obtain ⟨c, l3, i3, h5, h6⟩ := Qaj h4
 obtain ⟨q, l4, i4, h7, h8⟩ := Qaj h6
 obtain ⟨r, h9, _⟩ := Qas h8
 have g1 := Qhv _ _ _ _ _ h1
 have g1' := Qdz _ _ _ _ _ h1
 have gb : l2.length ≤ l1.length ∧ i2 = i1 := by
  split at h3
  ·
   have := Qht Qjx _ _ _ _ _ h3
   have := Qii Qte _ _ _ _ _ h3
   have := Qby l1
   exact ⟨by omega, by omega⟩
  · cases h3; exact ⟨Nat.le_refl _, rfl⟩
 have g3 := Qde _ _ _ _ _ _ h5
 have g3' := Qdi _ _ _ _ _ _ h5
 obtain ⟨g4, g5, g6⟩ := hB _ _ _ _ _ h7
 have g7 := Qde _ _ _ _ _ _ h9
 have g7' := Qdi _ _ _ _ _ _ h9
 have := Qby l
 exact ⟨by omega, by omega, by omega⟩
theorem Qku : ∀ d, GrS (compC e d)
 | 0 => fun _ _ _ _ _ h => by cases h
 | d + 1 => comp_gr (fun l i x l' i' h => by rw [Qdc] at h; exact Qrz (Qku d) _ _ _ _ _ _ _ h)
end
end
section
open Go.RowKit Go.Maps
abbrev coZ : Obj := .cells #[.string ⟨#[]⟩, .slice none 0 0, .slice none 0 0, .slice none 0 0, .slice none 0 0, .slice none 0 0, .slice none 0 0, .int .i64 0] 72
theorem cl8 {w : World} {b : Nat} {T : TypeId} {v0 v1 v2 v3 v4 v5 v6 v7 : Value} (h : w.heap[b]? = some (.cells #[v0, v1, v2, v3, v4, v5, v6, v7] T (0, 0))) :
  w.cell? ⟨b, 0, none⟩ = some v0 ∧ w.cell? ⟨b, 1, none⟩ = some v1 ∧ w.cell? ⟨b, 2, none⟩ = some v2 ∧ w.cell? ⟨b, 3, none⟩ = some v3 ∧ w.cell? ⟨b, 4, none⟩ = some v4 ∧ w.cell? ⟨b, 5, none⟩ = some v5 ∧ w.cell? ⟨b, 6, none⟩ = some v6 ∧ w.cell? ⟨b, 7, none⟩ = some v7 ∧ ∀ o, w.frozen? ⟨b, o, none⟩ = false :=
 ⟨(Qab h 0).trans rfl, (Qab h 1).trans rfl, (Qab h 2).trans rfl, (Qab h 3).trans rfl, (Qab h 4).trans rfl, (Qab h 5).trans rfl, (Qab h 6).trans rfl, (Qab h 7).trans rfl, fun o => by simp [World.frozen?, h]⟩
def coStore (p v : Value) : Sem Unit := Instr.storeAt 72 p v
theorem Qei (p v : Value) : Instr.storeAt 72 p v = coStore p v := rfl
def coLoad (x : Value) : Sem Value := Instr.loadAt 72 x
theorem Qfc (x : Value) : Instr.loadAt 72 x = coLoad x := rfl
theorem Qfz : (Tryz.prog.info? 72).map (·.size) = some 8 := by kernel_rfl
theorem Jcb (w : World) (a : Int) : (coStore (.pointer (some ⟨w.heap.size, 0, none⟩)) (.agg #[.string ⟨#[]⟩, .slice none 0 0, .slice none 0 0, .slice none 0 0, .slice none 0 0, .slice none 0 0, .slice none 0 0, .int .i64 a])).run Tryz.prog (w.alloc (.cells #[.string ⟨#[]⟩, .slice none 0 0, .slice none 0 0, .slice none 0 0, .slice none 0 0, .slice none 0 0, .slice none 0 0, .int .i64 0] 72)) = .ok () (w.alloc (.cells #[.string ⟨#[]⟩, .slice none 0 0, .slice none 0 0, .slice none 0 0, .slice none 0 0, .slice none 0 0, .slice none 0 0, .int .i64 a] 72)) :=
 run_storeAt_new w 72 _ _ Qfz rfl (by simp [Value.oneCell'])
theorem LsAt.sl {α : Type} {p : PS α} {k : Nat} {S : Nat → Prop} {w : World} {v : Value} {xs : List α} (h : LsAt p k S w v xs) : ∃ a c, v = .slice a xs.length c := by
 obtain ⟨a, c, _, e, _⟩ := h
 exact ⟨a, c, e⟩
theorem Qiq {S : Nat → Prop} {w : World} {cs : List Value} {x : Cp} (h : PCo S w cs x) : ∀ c ∈ cs, c.oneCell' = true := by
 obtain ⟨vb, bd, rfl, h2, h3, h4⟩ := h
 obtain ⟨v0, v1, v2, v3, v4, rfl, g0, g1, g2, g3, g4⟩ := h4.cells
 obtain ⟨_, _, rfl⟩ := h3.sl
 obtain ⟨_, _, rfl⟩ := g0.sl
 obtain ⟨_, _, rfl⟩ := g1.sl
 obtain ⟨_, _, rfl⟩ := g2.sl
 obtain ⟨_, _, rfl⟩ := g3.sl
 obtain ⟨_, _, rfl⟩ := g4.sl
 simp [Value.oneCell', str]
theorem Jca {rb e dp xb : Nat} {w w8 : World} {l : List Tok} {it : Nat} {x : Cp} {S : Nat → Prop} {v0 v1 v2 v3 v4 v5 v6 v7 : Value} (n8 : w8.heap[xb]? = some (.cells #[v0, v1, v2, v3, v4, v5, v6, v7] 72 (0, 0))) (q8 : w8.heap[w.heap.size]? = some coZ) (hX : PCo S w8 [v0, v1, v2, v3, v4, v5, v6, v7] x) (hS : ∀ b, S b → w.heap.size ≤ b ∧ b ≠ w.heap.size) (hR : Rd rb e w8 l it dp) (k : Kp rb w w8) (hrb : rb < w.heap.size) :
  ∃ w9, (coLoad (.pointer (some ⟨xb, 0, none⟩))).run Tryz.prog w8 = .ok (.agg #[v0, v1, v2, v3, v4, v5, v6, v7]) w8 ∧ (coStore (.pointer (some ⟨w.heap.size, 0, none⟩)) (.agg #[v0, v1, v2, v3, v4, v5, v6, v7])).run Tryz.prog w8 = .ok () w9 ∧ w9.heap[w.heap.size]? = some (.cells #[v0, v1, v2, v3, v4, v5, v6, v7] 72 (0, 0)) ∧ PCo (fun b => w.heap.size ≤ b) w9 [v0, v1, v2, v3, v4, v5, v6, v7] x ∧ Rd rb e w9 l it dp ∧ Kp rb w w9 := by
 have hsame : ∀ b, b ≠ w.heap.size → ((((((((w8.setCell ⟨w.heap.size, 0, none⟩ (v0)).setCell ⟨w.heap.size, 1, none⟩ (v1)).setCell ⟨w.heap.size, 2, none⟩ (v2)).setCell ⟨w.heap.size, 3, none⟩ (v3)).setCell ⟨w.heap.size, 4, none⟩ (v4)).setCell ⟨w.heap.size, 5, none⟩ (v5)).setCell ⟨w.heap.size, 6, none⟩ (v6)).setCell ⟨w.heap.size, 7, none⟩ (v7)).heap[b]? = w8.heap[b]? := fun b hb => by
  rw [hpS hb, hpS hb, hpS hb, hpS hb, hpS hb, hpS hb, hpS hb, hpS hb]
 have hF : PCo (fun b => w.heap.size ≤ b) ((((((((w8.setCell ⟨w.heap.size, 0, none⟩ (v0)).setCell ⟨w.heap.size, 1, none⟩ (v1)).setCell ⟨w.heap.size, 2, none⟩ (v2)).setCell ⟨w.heap.size, 3, none⟩ (v3)).setCell ⟨w.heap.size, 4, none⟩ (v4)).setCell ⟨w.heap.size, 5, none⟩ (v5)).setCell ⟨w.heap.size, 6, none⟩ (v6)).setCell ⟨w.heap.size, 7, none⟩ (v7)) [v0, v1, v2, v3, v4, v5, v6, v7] x ∧ Rd rb e ((((((((w8.setCell ⟨w.heap.size, 0, none⟩ (v0)).setCell ⟨w.heap.size, 1, none⟩ (v1)).setCell ⟨w.heap.size, 2, none⟩ (v2)).setCell ⟨w.heap.size, 3, none⟩ (v3)).setCell ⟨w.heap.size, 4, none⟩ (v4)).setCell ⟨w.heap.size, 5, none⟩ (v5)).setCell ⟨w.heap.size, 6, none⟩ (v6)).setCell ⟨w.heap.size, 7, none⟩ (v7)) l it dp ∧ Kp rb w ((((((((w8.setCell ⟨w.heap.size, 0, none⟩ (v0)).setCell ⟨w.heap.size, 1, none⟩ (v1)).setCell ⟨w.heap.size, 2, none⟩ (v2)).setCell ⟨w.heap.size, 3, none⟩ (v3)).setCell ⟨w.heap.size, 4, none⟩ (v4)).setCell ⟨w.heap.size, 5, none⟩ (v5)).setCell ⟨w.heap.size, 6, none⟩ (v6)).setCell ⟨w.heap.size, 7, none⟩ (v7)) := ⟨Qbb.mono _ _ _ _ _ (Qbb.same _ _ _ _ _ hX (by simp [World.setCell]) (fun b hb _ => hsame b (hS b hb).2)) (fun b _ hb => (hS b hb).1), ((((((((hR.set2 (by omega)).set2 (by omega)).set2 (by omega)).set2 (by omega)).set2 (by omega)).set2 (by omega)).set2 (by omega)).set2 (by omega)), ((((((((k.set2 (by omega)).set2 (by omega)).set2 (by omega)).set2 (by omega)).set2 (by omega)).set2 (by omega)).set2 (by omega)).set2 (by omega))⟩
 refine ⟨_, ?_, ?_, ?_, hF⟩
 ·
  refine run_loadAt_mid w8 xb 0 72 [v0, v1, v2, v3, v4, v5, v6, v7] _ (fun q v hq => ?_) Tryz.underlying72 rfl Qfz
  rw [Lib.cell_of_heap n8, Nat.zero_add, ← hq]
  simp
 ·
  refine run_storeAt_mid w8 w.heap.size 0 72 #[v0, v1, v2, v3, v4, v5, v6, v7] (fun j hj => ⟨?_, Lib.frozen_of_heap q8 _⟩) Qfz (by have := Qiq hX; simpa using this)
  have hj : j < 8 := hj
  rw [Lib.cell_of_heap q8]
  rcases (by omega : j = 0 ∨ j = 1 ∨ j = 2 ∨ j = 3 ∨ j = 4 ∨ j = 5 ∨ j = 6 ∨ j = 7) with rfl | rfl | rfl | rfl | rfl | rfl | rfl | rfl <;> rfl
 have m0 : (w8.setCell ⟨w.heap.size, 0, none⟩ v0).heap[w.heap.size]? = some (.cells #[v0, .slice none 0 0, .slice none 0 0, .slice none 0 0, .slice none 0 0, .slice none 0 0, .slice none 0 0, .int .i64 0] 72 (0, 0)) := (Qad q8 0 _).trans rfl
 have m1 : ((w8.setCell ⟨w.heap.size, 0, none⟩ v0).setCell ⟨w.heap.size, 1, none⟩ v1).heap[w.heap.size]? = some (.cells #[v0, v1, .slice none 0 0, .slice none 0 0, .slice none 0 0, .slice none 0 0, .slice none 0 0, .int .i64 0] 72 (0, 0)) := (Qad m0 1 _).trans rfl
 have m2 : (((w8.setCell ⟨w.heap.size, 0, none⟩ v0).setCell ⟨w.heap.size, 1, none⟩ v1).setCell ⟨w.heap.size, 2, none⟩ v2).heap[w.heap.size]? = some (.cells #[v0, v1, v2, .slice none 0 0, .slice none 0 0, .slice none 0 0, .slice none 0 0, .int .i64 0] 72 (0, 0)) := (Qad m1 2 _).trans rfl
 have m3 : ((((w8.setCell ⟨w.heap.size, 0, none⟩ v0).setCell ⟨w.heap.size, 1, none⟩ v1).setCell ⟨w.heap.size, 2, none⟩ v2).setCell ⟨w.heap.size, 3, none⟩ v3).heap[w.heap.size]? = some (.cells #[v0, v1, v2, v3, .slice none 0 0, .slice none 0 0, .slice none 0 0, .int .i64 0] 72 (0, 0)) := (Qad m2 3 _).trans rfl
 have m4 : (((((w8.setCell ⟨w.heap.size, 0, none⟩ v0).setCell ⟨w.heap.size, 1, none⟩ v1).setCell ⟨w.heap.size, 2, none⟩ v2).setCell ⟨w.heap.size, 3, none⟩ v3).setCell ⟨w.heap.size, 4, none⟩ v4).heap[w.heap.size]? = some (.cells #[v0, v1, v2, v3, v4, .slice none 0 0, .slice none 0 0, .int .i64 0] 72 (0, 0)) := (Qad m3 4 _).trans rfl
 have m5 : ((((((w8.setCell ⟨w.heap.size, 0, none⟩ v0).setCell ⟨w.heap.size, 1, none⟩ v1).setCell ⟨w.heap.size, 2, none⟩ v2).setCell ⟨w.heap.size, 3, none⟩ v3).setCell ⟨w.heap.size, 4, none⟩ v4).setCell ⟨w.heap.size, 5, none⟩ v5).heap[w.heap.size]? = some (.cells #[v0, v1, v2, v3, v4, v5, .slice none 0 0, .int .i64 0] 72 (0, 0)) := (Qad m4 5 _).trans rfl
 have m6 : (((((((w8.setCell ⟨w.heap.size, 0, none⟩ v0).setCell ⟨w.heap.size, 1, none⟩ v1).setCell ⟨w.heap.size, 2, none⟩ v2).setCell ⟨w.heap.size, 3, none⟩ v3).setCell ⟨w.heap.size, 4, none⟩ v4).setCell ⟨w.heap.size, 5, none⟩ v5).setCell ⟨w.heap.size, 6, none⟩ v6).heap[w.heap.size]? = some (.cells #[v0, v1, v2, v3, v4, v5, v6, .int .i64 0] 72 (0, 0)) := (Qad m5 6 _).trans rfl
 have m7 : ((((((((w8.setCell ⟨w.heap.size, 0, none⟩ v0).setCell ⟨w.heap.size, 1, none⟩ v1).setCell ⟨w.heap.size, 2, none⟩ v2).setCell ⟨w.heap.size, 3, none⟩ v3).setCell ⟨w.heap.size, 4, none⟩ v4).setCell ⟨w.heap.size, 5, none⟩ v5).setCell ⟨w.heap.size, 6, none⟩ v6).setCell ⟨w.heap.size, 7, none⟩ v7).heap[w.heap.size]? = some (.cells #[v0, v1, v2, v3, v4, v5, v6, v7] 72 (0, 0)) := (Qad m6 7 _).trans rfl
 exact m7
def VPg (S : Nat → Prop) (w : World) (v : Value) (x : Pg) : Prop := ∃ a0 n0 c0 a1 n1 c1 a2 n2 c2 a3 n3 c3 a4 n4 c4, v = .agg #[.slice a0 n0 c0, .slice a1 n1 c1, .slice a2 n2 c2, .slice a3 n3 c3, .slice a4 n4 c4] ∧ PgS S w [.slice a0 n0 c0, .slice a1 n1 c1, .slice a2 n2 c2, .slice a3 n3 c3, .slice a4 n4 c4] x
def VCo (S : Nat → Prop) (w : World) (v : Value) (x : Cp) : Prop := ∃ ba bn bc a0 n0 c0 a1 n1 c1 a2 n2 c2 a3 n3 c3 a4 n4 c4, v = .agg #[str x.1, .slice ba bn bc, .slice a0 n0 c0, .slice a1 n1 c1, .slice a2 n2 c2, .slice a3 n3 c3, .slice a4 n4 c4, .int .i64 x.2.2.2] ∧ PCo S w [str x.1, .slice ba bn bc, .slice a0 n0 c0, .slice a1 n1 c1, .slice a2 n2 c2, .slice a3 n3 c3, .slice a4 n4 c4, .int .i64 x.2.2.2] x
end
section
open Go.RowKit Go.Maps
attribute [local go_sem ↓] Qei Qfc

theorem comp_bs {rb e dp d : Nat} (hd : dp < 32) (hB : ∀ w l it, it ≤ 96 → Rd rb e w l it (dp + 1) → Calls Tryz.prog 25 #[.pointer (some ⟨rb, 0, none⟩), .int .i64 4, str [125]] w fun en w' => Ans rb e (dp + 1) w (fun w2 v x => VPg (fun b => w.heap.size ≤ b) w2 v x) (progD e d false l it) en w')
  {w : World} {t : Tok} {l : List Tok} {it : Nat} (hi : it ≤ 96) (h : Rd rb e w (t :: l) it dp) (hyp : ∀ s l2 i2, wordQ e l it = .ok s l2 i2 → sgn e l2 = [58]) :
  Calls Tryz.prog 95 #[.pointer (some ⟨rb, 0, none⟩)] w fun en w' => Ans rb e dp w (fun w2 v x => VCo (fun b => w.heap.size ≤ b) w2 v x) (compB e (progD e d false) (t :: l) it) en w' := by
 obtain ⟨w1, hw1⟩ : ∃ w1, w1 = w.alloc coZ := ⟨_, rfl⟩
 have b1 : Below w.heap.size w w1 := bnw hw1
 have q1 : w1.heap[w.heap.size]? = some coZ := nnw hw1
 have s1 : w1.heap.size = w.heap.size + 1 := by rw [hw1]; simp
 have hen := Qgb (h.later b1) hd
 have hrb := h.lt
 obtain ⟨PO, hPO⟩ : ∃ PO : Ending → World → Prop, PO = fun en w' => Ans rb e dp w (fun w2 v x => VCo (fun b => w.heap.size ≤ b) w2 v x) (compB e (progD e d false) (t :: l) it) en w' := ⟨_, rfl⟩
 rw [← hPO]
 have HW1 : Hid (w1 = w.alloc (.cells #[.string ⟨#[]⟩, .slice none 0 0, .slice none 0 0, .slice none 0 0, .slice none 0 0, .slice none 0 0, .slice none 0 0, .int .i64 0] 72)) := hw1
 have HPO := hide hPO
 have HB := hide hB
 have HDP := hide hd
 have HI0 := hide hi
 have hsg : Hid (compB e (progD e d false) (t :: l) it = (wordQ e l it).bind fun n l2 i =>
  (if sgn e l2 = [58] then listP e [44] noMost (nmQ e) (l2.drop 1) i else .ok [] l2 i).bind fun bs l3 i =>
   (want e [123] l3 i).bind fun _ l4 i => (progD e d false l4 i).bind fun p l5 i => (want e [125] l5 i).map fun _ => (n, bs, p, (t.at_ : Int))) := rfl
 generalize compB e (progD e d false) (t :: l) it = sr at HPO hsg
 have K1 := hide (Ya (Kp.of_below (rb := rb) b1) (Ya q1 s1))
 clear h b1 q1 s1 hw1 hPO hB hd hi
 go_enter Tryz.func95, Tryz.ntmps95
 go_wp2_with fail
 rw [← Qa HW1]
 refine hen.mono ?_
 clear hen HW1
 rintro en w2 ⟨rfl, hR2, k2⟩
 have ha : Calls Tryz.prog 110 #[.pointer (some ⟨rb, 0, none⟩)] w2 fun en w' => en = .returned (.agg #[.int .i64 t.kind, str t.text, .int .i64 t.num, .int .i64 (t.at_ : Int)]) ∧ Rd rb e w' l it (dp + 1) ∧ Kp rb w2 w' := Qbu hR2
 have K2 := hide k2
 clear hR2 k2
 go_wp2_with fail
 refine ha.mono ?_
 clear ha
 rintro en w2' ⟨rfl, hR2, k2'⟩
 obtain ⟨k1, q1, s1⟩ := Qa K1
 have k2 := (Qa K2).trans k2'
 have hs2 := k2.size
 obtain ⟨w3, hw3⟩ : ∃ w3, w3 = w2'.alloc (.cells #[.string ⟨#[]⟩, .slice none 0 0, .slice none 0 0, .slice none 0 0, .slice none 0 0, .slice none 0 0, .slice none 0 0, .int .i64 (t.at_ : Int)] 72) := ⟨_, rfl⟩
 have b3 : Below w2'.heap.size w2' w3 := by rw [hw3]; exact (Below.refl _ w2').alloc (Nat.le_refl _) _
 have n3 : w3.heap[w2'.heap.size]? = some (.cells #[.string ⟨#[]⟩, .slice none 0 0, .slice none 0 0, .slice none 0 0, .slice none 0 0, .slice none 0 0, .slice none 0 0, .int .i64 (t.at_ : Int)] 72 (0, 0)) := by rw [hw3]; exact heap_alloc_new w2' _
 have q3 : w3.heap[w.heap.size]? = some coZ := (b3.block _ (by omega)).trans (k2.keep q1 (by omega))
 have s3 : w3.heap.size = w2'.heap.size + 1 := by rw [hw3]; simp
 have hc := Qcp (hR2.later b3)
 have HW3 := hide hw3
 have K3 := hide (Ya ((k1.trans k2).trans (Kp.of_below b3)) (Ya n3 (Ya q3 (Ya (by omega : w.heap.size + 1 ≤ w2'.heap.size) s3))))
 have hS3 := Jcb w2' (t.at_ : Int)
 generalize hxb : w2'.heap.size = xb at K3 hS3
 clear k1 q1 s1 hs2 k2 k2' b3 n3 q3 s3 hw3 K1 K2 hR2
 go_wp2_with fail
 rename_i hK
 refine hK _ _ ?_
 clear hK
 go_wp2_with fail
 clear hS3
 cases hq : wordQ e l it with
 | bad why at1 l2 =>
  rw [hq] at hc hsg
  rw [Qa hsg] at HPO
  clear hq hsg
  go_wp2_with fail
  rw [← Qa HW3]
  refine hc.mono ?_
  clear hc
  rintro en w4 ⟨rfl, k4⟩
  have H4 := hide ((Qa K3).1.trans k4)
  clear k4
  go_wp2_with fail
  refine ⟨rfl, ?_⟩
  rw [Qa HPO]
  exact ⟨rfl, Qa H4⟩
 | ok s l2 i2 =>
  rw [hq] at hc hsg
  rw [Qa hsg, Rs.bind] at HPO
  have hb := hyp s l2 i2 hq
  have HI := hide (show i2 ≤ 96 by rw [Qdz _ _ _ _ _ hq]; exact Qa HI0)
  clear hsg hyp hq
  go_wp2_with fail
  rw [← Qa HW3]
  clear HW3 hxb
  refine hc.mono ?_
  clear hc
  rintro en w4 ⟨_, rfl, rfl, hR4, k4⟩
  obtain ⟨k3, n3, q3, g1, s3⟩ := Qa K3
  have hs4 := k4.size
  have n4 := k4.keep n3 (by omega)
  have q4 := k4.keep q3 (by omega)
  have hne : w.heap.size ≠ xb := by omega
  obtain ⟨c0, c1, c2, c3, c4, c5, c6, c7, cf⟩ := cl8 n4
  obtain ⟨w5, hw5⟩ : ∃ w5, w5 = w4.setCell ⟨xb, 0, none⟩ (str s) := ⟨_, rfl⟩
  have n5 : w5.heap[xb]? = some (.cells #[str s, .slice none 0 0, .slice none 0 0, .slice none 0 0, .slice none 0 0, .slice none 0 0, .slice none 0 0, .int .i64 (t.at_ : Int)] 72 (0, 0)) := by rw [hw5]; exact (Qad n4 0 _).trans rfl
  have q5 : w5.heap[w.heap.size]? = some coZ := by rw [hw5, hpS hne]; exact q4
  have k5 : Kp rb w w5 := by rw [hw5]; exact (k3.trans k4).set2 (by omega)
  have hR5 : Rd rb e w5 l2 i2 (dp + 1) := by rw [hw5]; exact hR4.set2 (by omega)
  have hsk := Qcb hR5 [58] (by decide)
  have HW5 := hide hw5
  have K5 := hide (Ya k5 (Ya n5 (Ya q5 (Ya g1 (Qag n5)))))
  clear k3 n3 q3 g1 s3 hs4 n4 q4 c1 c2 c3 c4 c5 c6 c7 hw5 n5 q5 k5 hR5 K3 hR4 k4
  rw [if_pos hb, decide_eq_true hb] at hsk
  rw [if_pos hb] at HPO
  clear hb
  go_wp2_with fail
  rw [← Qa HW5]
  clear HW5 c0 cf
  refine hsk.mono ?_
  clear hsk
  rintro en w6 ⟨rfl, hR6, k6⟩
  have hli := Qwv PSt Qbj Jb Qjx hR6 [44] (by decide) noMost
  have K6 := hide (Ya ((Qa K5).1.trans k6) k6)
  clear hR6 k6
  cases hq : listP e [44] noMost (nmQ e) (l2.drop 1) i2 with
  | bad why at1 l4 =>
   rw [hq] at hli HPO
   clear hq
   go_wp2_with fail
   refine hli.mono ?_
   clear hli
   rintro en w7 ⟨rfl, k7⟩
   have HQ := hide ((Qa K6).1.trans k7)
   clear k7
   go_wp2_with fail
   refine ⟨rfl, ?_⟩
   rw [Qa HPO]
   exact ⟨rfl, Qa HQ⟩

  | ok ks lw iw =>
   have HIW := hide (show iw ≤ 96 by rw [Qii Qte _ _ _ _ _ hq]; exact Qa HI)
   rw [hq] at hli
   rw [hq, Rs.bind] at HPO
   clear hq
   go_wp2_with fail
   refine hli.mono ?_
   clear hli
   rintro en w7 ⟨_, rfl, hL, hR7, k7'⟩
   obtain ⟨ka, kc, _, ev, _⟩ := id hL
   subst ev
   obtain ⟨k5, n5, q5, g1, g2⟩ := Qa K5
   have hs6 := (Qa K6).2.size
   have k7 := (Qa K6).2.trans k7'
   have n7 := k7.keep n5 (by omega)
   have q7 := k7.keep q5 (by omega)
   obtain ⟨x0, x1, x2, x3, x4, x5, x6, x7, xf⟩ := cl8 n7
   obtain ⟨w8, hw8⟩ : ∃ w8, w8 = w7.setCell ⟨xb, 1, none⟩ (.slice ka ks.length kc) := ⟨_, rfl⟩
   have nW : w8.heap[xb]? = some (.cells #[str s, .slice ka ks.length kc, .slice none 0 0, .slice none 0 0, .slice none 0 0, .slice none 0 0, .slice none 0 0, .int .i64 (t.at_ : Int)] 72 (0, 0)) := by rw [hw8]; exact (Qad n7 1 _).trans rfl
   have hs8 : ∀ k, k ≠ xb → w8.heap[k]? = w7.heap[k]? := fun k hk => by rw [hw8, hpS hk]
   have s8 : w8.heap.size = w7.heap.size := by rw [hw8]; simp [World.setCell]
   have qW : w8.heap[w.heap.size]? = some coZ := (hs8 _ hne).trans q7
   have kW : Kp rb w w8 := by rw [hw8]; exact (k5.trans k7).set2 (by omega)
   have hRW : Rd rb e w8 lw iw (dp + 1) := by rw [hw8]; exact hR7.set2 (by omega)
   have LB : LsAt PSt 1 (fun b => w.heap.size < b ∧ b ≠ xb) w8 (.slice ka ks.length kc) ks := by
    refine (hL.same Qbj (by omega) (fun b hb hl => hs8 b ?_)).mono Qbj (fun b _ hb => ?_)
    · have hb' : w6.heap.size ≤ b := hb; omega
    · have hb' : w6.heap.size ≤ b := hb; exact ⟨by omega, by omega⟩
   have HW8 := hide hw8
   clear hL hR7 k7' k5 n5 q5 hs6 k7 n7 q7 hw8 hs8 s8 x0 x2 x3 x4 x5 x6 x7 K5 K6
   have hwt := Qch hRW [123] (by decide)
   have KW := hide (Ya kW (Ya nW (Ya qW (Ya LB (Qag nW)))))
   clear kW nW qW LB hRW
   cases hq : want e [123] lw iw with
   | bad why at1 l9 =>
    rw [hq] at hwt HPO
    clear hq
    go_wp2_with fail
    rw [← Qa HW8]; clear HW8 x1 xf
    refine hwt.mono ?_
    clear hwt
    rintro en w9 ⟨rfl, k9⟩
    have HQ := hide ((Qa KW).1.trans k9)
    clear k9
    go_wp2_with fail
    refine ⟨rfl, ?_⟩
    rw [Qa HPO]
    exact ⟨rfl, Qa HQ⟩
   | ok u l9 i9 =>
    have HI9 := hide (show i9 ≤ 96 by rw [Qdi _ _ _ _ _ _ hq]; exact Qa HIW)
    rw [hq] at hwt
    rw [hq, Rs.bind] at HPO
    clear hq
    go_wp2_with fail
    rw [← Qa HW8]; clear HW8 x1 xf
    refine hwt.mono ?_
    clear hwt
    rintro en w9 ⟨_, rfl, rfl, hR9, k9⟩
    obtain ⟨kW, nW, qW, LB, gW⟩ := Qa KW
    have hpr := Qa HB w9 l9 i9 (Qa HI9) hR9
    have K9 := hide (Ya (kW.trans k9) (Ya (k9.keep nW (by omega)) (Ya (k9.keep qW (by omega)) (Ya (LB.same Qbj k9.size (fun b hb hl => k9.block b hl (by have hb' : w.heap.size < b ∧ b ≠ xb := hb; omega))) (by have := k9.size; omega : xb < w9.heap.size)))))
    clear hR9 k9 kW nW qW LB gW KW
    cases hq : progD e d false l9 i9 with
    | bad why at1 l10 =>
     rw [hq] at hpr HPO
     clear hq
     go_wp2_with fail
     refine hpr.mono ?_
     clear hpr
     rintro en w10 ⟨rfl, k10⟩
     have HQ := hide ((Qa K9).1.trans k10)
     clear k10
     go_wp2_with fail
     refine ⟨rfl, ?_⟩
     rw [Qa HPO]
     exact ⟨rfl, Qa HQ⟩
    | ok pg l10 i10 =>
     rw [hq] at hpr
     rw [hq, Rs.bind] at HPO
     clear hq
     go_wp2_with fail
     refine hpr.mono ?_
     clear hpr
     rintro en w10 ⟨_, rfl, ⟨a0, n0, c0, a1, n1, c1, a2, n2, c2, a3, n3, c3, a4, n4, c4, rfl, hP⟩, hR10, k10⟩
     obtain ⟨k9, n9, q9, LB, g9⟩ := Qa K9
     have n10 := k10.keep n9 (by omega)
     have q10 := k10.keep q9 (by omega)
     have LB10 := LB.same Qbj k10.size (fun b hb hl => k10.block b hl (by have hb' : w.heap.size < b ∧ b ≠ xb := hb; omega))
     obtain ⟨x0, x1, x2, x3, x4, x5, x6, x7, xf⟩ := cl8 n10
     obtain ⟨w11, hw11⟩ : ∃ w11, w11 = (((((w10.setCell ⟨xb, 2, none⟩ (.slice a0 n0 c0)).setCell ⟨xb, 3, none⟩ (.slice a1 n1 c1)).setCell ⟨xb, 4, none⟩ (.slice a2 n2 c2)).setCell ⟨xb, 5, none⟩ (.slice a3 n3 c3)).setCell ⟨xb, 6, none⟩ (.slice a4 n4 c4)) := ⟨_, rfl⟩
     have n11 : w11.heap[xb]? = some (.cells #[str s, .slice ka ks.length kc, .slice a0 n0 c0, .slice a1 n1 c1, .slice a2 n2 c2, .slice a3 n3 c3, .slice a4 n4 c4, .int .i64 (t.at_ : Int)] 72 (0, 0)) := by rw [hw11]; exact (Qad (Qad (Qad (Qad (Qad n10 2 _) 3 _) 4 _) 5 _) 6 _).trans rfl
     have hs11 : ∀ k, k ≠ xb → w11.heap[k]? = w10.heap[k]? := fun k hk => by rw [hw11, hpS hk, hpS hk, hpS hk, hpS hk, hpS hk]
     have s11 : w11.heap.size = w10.heap.size := by rw [hw11]; simp [World.setCell]
     have q11 : w11.heap[w.heap.size]? = some coZ := (hs11 _ hne).trans q10
     have k11 : Kp rb w w11 := by rw [hw11]; exact ((((((k9.trans k10).set2 (by omega)).set2 (by omega)).set2 (by omega)).set2 (by omega)).set2 (by omega))
     have hR11 : Rd rb e w11 l10 i10 (dp + 1) := by rw [hw11]; exact (((((hR10.set2 (by omega)).set2 (by omega)).set2 (by omega)).set2 (by omega)).set2 (by omega))
     have LB11 := LB10.same Qbj (w' := w11) (by omega) (fun b hb _ => hs11 b (by have hb' : w.heap.size < b ∧ b ≠ xb := hb; exact hb'.2))
     have hP11 : PgS (fun b => w.heap.size < b ∧ b ≠ xb) w11 [.slice a0 n0 c0, .slice a1 n1 c1, .slice a2 n2 c2, .slice a3 n3 c3, .slice a4 n4 c4] pg := Qao.mono _ _ _ _ _ (Qao.same _ _ w11 _ _ hP (by omega) (fun b hb _ => hs11 b (by have hb' : w9.heap.size ≤ b := hb; omega))) (fun b _ hb => by have hb' : w9.heap.size ≤ b := hb; exact ⟨by omega, by omega⟩)
     have hw2 := Qch hR11 [125] (by decide)
     have HW11 := hide hw11
     have K11 := hide (Ya k11 (Ya n11 (Ya q11 (Ya LB11 (Ya hP11 (Qag n11))))))
     clear hP hR10 k10 k9 n9 q9 LB g9 n10 q10 LB10 hw11 n11 hs11 s11 q11 k11 hR11 LB11 hP11 x0 x1 x7 K9
     cases hq : want e [125] l10 i10 with
     | bad why at1 l12 =>
      rw [hq] at hw2 HPO
      clear hq
      go_wp2_with fail
      rw [← Qa HW11]
      refine hw2.mono ?_
      clear hw2
      rintro en w12 ⟨rfl, k12⟩
      have HQ := hide ((Qa K11).1.trans k12)
      clear k12
      go_wp2_with fail
      refine ⟨rfl, ?_⟩
      rw [Qa HPO]
      exact ⟨rfl, Qa HQ⟩
     | ok u2 l12 i12 =>
      rw [hq] at hw2 HPO
      clear hq
      go_wp2_with fail
      rw [← Qa HW11]
      clear HW11 x2 x3 x4 x5 x6 xf
      refine hw2.mono ?_
      clear hw2
      rintro en w12 ⟨_, rfl, rfl, hR12, k12⟩
      have hlv := Qdl hR12 (Qa HDP)
      have K12 := hide k12
      clear hR12 k12
      go_wp2_with fail
      refine hlv.mono ?_
      clear hlv
      rintro en w13 ⟨rfl, hR13, k13'⟩
      obtain ⟨k11, n11, q11, LB11, hP11, g11⟩ := Qa K11
      have k13 := (Qa K12).trans k13'
      have hX : PCo (fun b => w.heap.size < b ∧ b ≠ xb) w13 [str s, .slice ka ks.length kc, .slice a0 n0 c0, .slice a1 n1 c1, .slice a2 n2 c2, .slice a3 n3 c3, .slice a4 n4 c4, .int .i64 (t.at_ : Int)] (s, ks, pg, (t.at_ : Int)) := ⟨.slice ka ks.length kc, [.slice a0 n0 c0, .slice a1 n1 c1, .slice a2 n2 c2, .slice a3 n3 c3, .slice a4 n4 c4], rfl, rfl, LB11.same Qbj k13.size (fun b hb hl => k13.block b hl (by have hb' : w.heap.size < b ∧ b ≠ xb := hb; omega)), Qao.same _ _ w13 _ _ hP11 k13.size (fun b hb hl => k13.block b hl (by have hb' : w.heap.size < b ∧ b ≠ xb := hb; omega))⟩
      obtain ⟨w14, hL8, hS8, n14, HF'⟩ := Jca (k13.keep n11 (by omega)) (k13.keep q11 (by omega)) hX (fun b hb => by have hb' : w.heap.size < b ∧ b ≠ xb := hb; exact ⟨by omega, by omega⟩) hR13 (k11.trans k13) hrb
      obtain ⟨y0, y1, y2, y3, y4, y5, y6, y7, yf⟩ := cl8 n14
      have HF := hide HF'
      clear HF' n14 hX hR13 k13' k11 n11 q11 LB11 hP11 g11 k13 K11 K12
      go_wp2_with fail
      refine bodyPost_ret (v := .agg #[str s, .slice ka ks.length kc, .slice a0 n0 c0, .slice a1 n1 c1, .slice a2 n2 c2, .slice a3 n3 c3, .slice a4 n4 c4, .int .i64 (t.at_ : Int)]) (by simp [results, Tryz.results95, go_sem, y0, y1, y2, y3, y4, y5, y6, y7]) rfl ?_
      rw [Qa HPO]
      exact ⟨_, rfl, ⟨_, _, _, _, _, _, _, _, _, _, _, _, _, _, _, _, _, _, rfl, (Qa HF).1⟩, (Qa HF).2⟩
end
end Go.Proofs.YtccehgfecaamoaaGreatDoor
