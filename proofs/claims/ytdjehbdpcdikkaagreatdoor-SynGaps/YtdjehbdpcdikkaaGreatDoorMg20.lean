/- The plain reading: how many items have begun; what is taken. syn: comp, what it stores. -/
import Derived.Test.YtdjehbdpcdikkaaGreatDoorMg09
import Derived.Test.YtdjehbdpcdikkaaGreatDoorMg19
import Derived.Deep.WholeRow
namespace Go.Proofs.YtdjehbdpcdikkaaGreatDoor

/-- No item begins. -/
def IK {α : Type} (p : Pr α) : Prop := ∀ l i x l' i', p l i = .ok x l' i' → i' = i
section
variable {e : Nat}
theorem ik_want (s : Txt) : IK (want e s) := fun l i x l' i' h => by
  unfold want at h
  split at h
  · cases h; rfl
  · cases h
theorem ik_choose (ss : List Txt) : IK (choose e ss) := fun l i x l' i' h => by
  unfold choose at h
  split at h
  · cases h; rfl
  · cases h
theorem ik_nm : IK (nmQ e) := fun l i x l' i' h => by
  unfold nmQ at h
  split at h
  · cases h; rfl
  · cases h
theorem ik_word : IK (wordQ e) := fun l i x l' i' h => by
  unfold wordQ at h
  split at h
  · cases h; rfl
  · cases h
theorem ik_refuse {α : Type} (why : Int) : IK (refuse (α := α) e why) := fun l i x l' i' h => by cases h
theorem ik_listL {α : Type} {sep : Txt} {most : Nat} {p : Pr α} (hp : IK p) : ∀ f acc, IK (listL e sep most p f acc)
  | 0, acc, l, i, x, l', i', h => by cases h; rfl
  | f + 1, acc, l, i, x, l', i', h => by
    unfold listL at h
    split at h
    · cases h
    · obtain ⟨a, l1, i1, h1, h2⟩ := bind_ok h
      have g1 := hp _ _ _ _ _ h1
      split at h2
      · have := ik_listL hp f _ _ _ _ _ _ h2
        omega
      · cases h2; exact g1
theorem ik_list {α : Type} {sep : Txt} {most : Nat} {p : Pr α} (hp : IK p) : IK (listP e sep most p) := fun _ _ _ _ _ h => ik_listL hp _ _ _ _ _ _ _ h
theorem ik_encl {α : Type} {op cl : Txt} {p : Pr α} (hp : IK p) : IK (encl e op cl p) := fun l i x l' i' h => by
  unfold encl at h
  obtain ⟨a, l1, i1, h1, h2⟩ := bind_ok h
  have g1 := ik_want _ _ _ _ _ _ h1
  split at h2
  · cases h2
    omega
  · obtain ⟨b, l2, i2, h3, h4⟩ := bind_ok h2
    have g2 := ik_list hp _ _ _ _ _ h3
    obtain ⟨c, h5, _⟩ := map_ok h4
    have g3 := ik_want _ _ _ _ _ _ h5
    omega
theorem ik_joinL {p : Pr Ex} {ss : List Txt} (hp : IK p) : ∀ f x, IK (joinL e p ss f x)
  | 0, x, l, i, y, l', i', h => by cases h; rfl
  | f + 1, x, l, i, y, l', i', h => by
    unfold joinL at h
    split at h
    · obtain ⟨a, l1, i1, h1, h2⟩ := bind_ok h
      have g1 := hp _ _ _ _ _ h1
      have g2 := ik_joinL hp f _ _ _ _ _ _ h2
      omega
    · cases h; rfl
theorem ik_joined {p : Pr Ex} {ss : List Txt} (hp : IK p) : IK (joined e p ss) := fun l i x l' i' h => by
  unfold joined at h
  obtain ⟨a, l1, i1, h1, h2⟩ := bind_ok h
  have g1 := hp _ _ _ _ _ h1
  have g2 := ik_joinL hp _ _ _ _ _ _ _ h2
  omega
theorem ik_signed {E F : Pr Ex} (hE : IK E) (hF : IK F) : IK (signed e E F) := fun l i x l' i' h => by
  unfold signed at h
  obtain ⟨a, l1, i1, h1, h2⟩ := bind_ok h
  have g1 := ik_choose _ _ _ _ _ _ h1
  split at h2
  · obtain ⟨b, h3, _⟩ := map_ok h2
    have := hF _ _ _ _ _ h3
    omega
  · split at h2
    · obtain ⟨b, l2, i2, h3, h4⟩ := bind_ok h2
      obtain ⟨c, h5, _⟩ := map_ok h4
      have g2 := hE _ _ _ _ _ h3
      have g3 := ik_want _ _ _ _ _ _ h5
      omega
    · obtain ⟨b, l2, i2, h3, h4⟩ := bind_ok h2
      obtain ⟨c, h5, _⟩ := map_ok h4
      have g2 := ik_word _ _ _ _ _ h3
      have g3 := ik_encl hE _ _ _ _ _ h5
      omega
theorem ik_factor {E F : Pr Ex} (hE : IK E) (hF : IK F) : IK (factorB e E F) := fun l i x l' i' h => by
  unfold factorB at h
  split at h
  · cases h; rfl
  · split at h
    · cases h; rfl
    · split at h
      · split at h
        · cases h; rfl
        · obtain ⟨b, h3, _⟩ := map_ok h
          exact ik_word _ _ _ _ _ h3
      · exact ik_signed hE hF _ _ _ _ _ h
theorem ik_ex : ∀ d, IK (exD e d).1 ∧ IK (exD e d).2
  | 0 => ⟨ik_refuse 4, ik_refuse 4⟩
  | d + 1 => ⟨ik_joined (ik_joined (ik_ex d).2), ik_factor (ik_ex d).1 (ik_ex d).2⟩
theorem ik_atom (d : Nat) : IK (atomP e d) := fun l i x l' i' h => by
  unfold atomP at h
  obtain ⟨a, l1, i1, h1, h2⟩ := bind_ok h
  obtain ⟨b, h3, _⟩ := map_ok h2
  have g1 := ik_nm _ _ _ _ _ h1
  have g2 := ik_encl (ik_ex d).1 _ _ _ _ _ h3
  omega
theorem ik_lit (d : Nat) : IK (litP e d) := fun l i x l' i' h => by
  unfold litP at h
  split at h
  · obtain ⟨b, h3, _⟩ := map_ok h
    have := ik_atom d _ _ _ _ _ h3
    omega
  · split at h
    · obtain ⟨b, h3, _⟩ := map_ok h
      exact ik_atom d _ _ _ _ _ h3
    · obtain ⟨a, l1, i1, h1, h2⟩ := bind_ok h
      obtain ⟨b, l2, i2, h3, h4⟩ := bind_ok h2
      obtain ⟨c, h5, _⟩ := map_ok h4
      have g1 := (ik_ex d).1 _ _ _ _ _ h1
      have g2 := ik_choose _ _ _ _ _ _ h3
      have g3 := (ik_ex d).1 _ _ _ _ _ h5
      omega
theorem ik_field : IK (fieldP e) := fun l i x l' i' h => by
  unfold fieldP at h
  obtain ⟨a, l1, i1, h1, h2⟩ := bind_ok h
  obtain ⟨b, l2, i2, h3, h4⟩ := bind_ok h2
  obtain ⟨c, h5, _⟩ := map_ok h4
  have g1 := ik_word _ _ _ _ _ h1
  have g2 := ik_want _ _ _ _ _ _ h3
  have g3 := ik_nm _ _ _ _ _ h5
  omega
theorem ik_ctor : IK (ctorP e) := fun l i x l' i' h => by
  unfold ctorP at h
  obtain ⟨a, l1, i1, h1, h2⟩ := bind_ok h
  obtain ⟨b, h3, _⟩ := map_ok h2
  have g1 := ik_word _ _ _ _ _ h1
  have g2 := ik_encl ik_field _ _ _ _ _ h3
  omega
theorem ik_clause (d : Nat) : IK (clauseP e d) := fun l i x l' i' h => by
  unfold clauseP at h
  obtain ⟨a, l1, i1, h1, h2⟩ := bind_ok h
  have g1 := ik_atom d _ _ _ _ _ h1
  split at h2
  · obtain ⟨b, l2, i2, h3, h4⟩ := bind_ok h2
    obtain ⟨c, h5, _⟩ := map_ok h4
    have g2 := ik_list (ik_lit d) _ _ _ _ _ h3
    have g3 := ik_want _ _ _ _ _ _ h5
    omega
  · obtain ⟨c, h5, _⟩ := map_ok h2
    have g3 := ik_want _ _ _ _ _ _ h5
    omega
theorem ik_type : IK (typeP e) := fun l i x l' i' h => by
  unfold typeP at h
  obtain ⟨a, l1, i1, h1, h2⟩ := bind_ok h
  obtain ⟨b, l2, i2, h3, h4⟩ := bind_ok h2
  have g1 := ik_word _ _ _ _ _ h1
  have g2 := ik_choose _ _ _ _ _ _ h3
  split at h4
  · obtain ⟨c, h5, _⟩ := map_ok h4
    have g3 := ik_nm _ _ _ _ _ h5
    omega
  · obtain ⟨c, h5, _⟩ := map_ok h4
    have g3 := ik_list ik_ctor _ _ _ _ _ h5
    omega
theorem ik_flagL : ∀ f a b, IK (flagL e f a b)
  | 0, a, b, l, i, x, l', i', h => by cases h; rfl
  | f + 1, a, b, l, i, x, l', i', h => by
    unfold flagL at h
    split at h
    · split at h
      · exact ik_flagL f _ _ _ _ _ _ _ h
      · split at h
        · exact ik_flagL f _ _ _ _ _ _ _ h
        · cases h; rfl
    · cases h; rfl
theorem shr_flagL : ∀ f a b, Shr (flagL e f a b)
  | 0, a, b, l, i, x, l', i', h => by cases h; exact Nat.le_refl _
  | f + 1, a, b, l, i, x, l', i', h => by
    have hd := drop_le l
    unfold flagL at h
    split at h
    · split at h
      · exact Nat.le_trans (shr_flagL f _ _ _ _ _ _ _ h) hd
      · split at h
        · exact Nat.le_trans (shr_flagL f _ _ _ _ _ _ _ h) hd
        · cases h; exact Nat.le_refl _
    · cases h; exact Nat.le_refl _
theorem ik_decl : IK (declP e) := fun l i x l' i' h => by
  unfold declP at h
  obtain ⟨a, l1, i1, h1, h2⟩ := bind_ok h
  obtain ⟨b, l2, i2, h3, h4⟩ := bind_ok h2
  obtain ⟨c, h5, _⟩ := map_ok h4
  have g1 := ik_word _ _ _ _ _ h1
  have g2 := ik_encl ik_field _ _ _ _ _ h3
  have g3 := ik_flagL _ _ _ _ _ _ _ _ h5
  omega
theorem ik_init : IK (initP e) := fun l i x l' i' h => by
  unfold initP at h
  obtain ⟨a, l1, i1, h1, h2⟩ := bind_ok h
  obtain ⟨b, l2, i2, h3, h4⟩ := bind_ok h2
  obtain ⟨c, h5, _⟩ := map_ok h4
  have g1 := ik_word _ _ _ _ _ h1
  have g2 := ik_want _ _ _ _ _ _ h3
  have g3 := ik_nm _ _ _ _ _ h5
  omega
/-- Something is taken. -/
def Sst {α : Type} (p : Pr α) : Prop := ∀ l i x l' i', p l i = .ok x l' i' → l'.length < l.length
theorem drop_lt {l : List Tok} (h : l ≠ []) : (l.drop 1).length < l.length := by
  cases l with
  | nil => exact absurd rfl h
  | cons t l => simp
theorem sst_nm : Sst (nmQ e) := fun l i x l' i' h => by
  unfold nmQ at h
  split at h
  · next hk => cases h; exact drop_lt (fun e => by subst e; simp [ahd] at hk)
  · cases h
theorem sst_word : Sst (wordQ e) := fun l i x l' i' h => by
  unfold wordQ at h
  split at h
  · next hk => cases h; exact drop_lt (fun e => by subst e; simp [ahd, isW1] at hk)
  · cases h
theorem sst_atom (d : Nat) : Sst (atomP e d) := fun l i x l' i' h => by
  unfold atomP at h
  obtain ⟨a, l1, i1, h1, h2⟩ := bind_ok h
  obtain ⟨b, h3, _⟩ := map_ok h2
  have g1 := sst_nm _ _ _ _ _ h1
  have g2 := shr_encl (shr_ex d).1 _ _ _ _ _ h3
  omega
theorem sst_clause (d : Nat) : Sst (clauseP e d) := fun l i x l' i' h => by
  unfold clauseP at h
  obtain ⟨a, l1, i1, h1, h2⟩ := bind_ok h
  have g1 := sst_atom d _ _ _ _ _ h1
  split at h2
  · obtain ⟨b, l2, i2, h3, h4⟩ := bind_ok h2
    obtain ⟨c, h5, _⟩ := map_ok h4
    have g2 := shr_list (shr_lit d) _ _ _ _ _ h3
    have g3 := shr_want _ _ _ _ _ _ h5
    have := drop_le l1
    omega
  · obtain ⟨c, h5, _⟩ := map_ok h2
    have g3 := shr_want _ _ _ _ _ _ h5
    omega
theorem sst_type : Sst (typeP e) := fun l i x l' i' h => by
  unfold typeP at h
  obtain ⟨a, l1, i1, h1, h2⟩ := bind_ok h
  obtain ⟨b, l2, i2, h3, h4⟩ := bind_ok h2
  have g1 := sst_word _ _ _ _ _ h1
  have g2 := shr_choose _ _ _ _ _ _ h3
  have := drop_le l
  split at h4
  · obtain ⟨c, h5, _⟩ := map_ok h4
    have g3 := shr_nm _ _ _ _ _ h5
    omega
  · obtain ⟨c, h5, _⟩ := map_ok h4
    have g3 := shr_list shr_ctor _ _ _ _ _ h5
    omega
theorem sst_decl : Sst (declP e) := fun l i x l' i' h => by
  unfold declP at h
  obtain ⟨a, l1, i1, h1, h2⟩ := bind_ok h
  obtain ⟨b, l2, i2, h3, h4⟩ := bind_ok h2
  obtain ⟨c, h5, _⟩ := map_ok h4
  have g1 := sst_word _ _ _ _ _ h1
  have g2 := shr_encl shr_field _ _ _ _ _ h3
  have g3 := shr_flagL _ _ _ _ _ _ _ _ h5
  have := drop_le l
  omega
theorem sst_init : Sst (initP e) := fun l i x l' i' h => by
  unfold initP at h
  obtain ⟨a, l1, i1, h1, h2⟩ := bind_ok h
  obtain ⟨b, l2, i2, h3, h4⟩ := bind_ok h2
  obtain ⟨c, h5, _⟩ := map_ok h4
  have g1 := sst_word _ _ _ _ _ h1
  have g2 := shr_want _ _ _ _ _ _ h3
  have g3 := shr_nm _ _ _ _ _ h5
  have := drop_le l
  omega
/-- A component, where d more may be begun. -/
def compC (e : Nat) : Nat → Pr (Txt × List Txt × Pg × Int)
  | 0 => refuse e 4
  | d + 1 => compB e (progD e d false)
theorem progD_eq (d : Nat) (top : Bool) (l : List Tok) (i : Nat) : progD e d top l i = progL e top d (compC e d) (l.length + 1) .none l i := by cases d <;> rfl
def Gr {α : Type} (p : Pr α) : Prop := ∀ l i x l' i', p l i = .ok x l' i' → l'.length ≤ l.length ∧ i ≤ i' ∧ (i ≤ 96 → i' ≤ 96)
def GrS {α : Type} (p : Pr α) : Prop := ∀ l i x l' i', p l i = .ok x l' i' → l'.length < l.length ∧ i ≤ i' ∧ (i ≤ 96 → i' ≤ 96)
/-- The lists of a program are no longer than n. -/
def Few (p : Pg) (n : Nat) : Prop := p.types.length ≤ n ∧ p.decls.length ≤ n ∧ p.comps.length ≤ n ∧ p.inits.length ≤ n ∧ p.clauses.length ≤ n
theorem few_types {p : Pg} {n m : Nat} (h : Few p n) (hm : n + 1 ≤ m) (x : Typ) : Few (.mk (p.types ++ [x]) p.decls p.comps p.inits p.clauses) m := by
  obtain ⟨f0, f1, f2, f3, f4⟩ := h
  exact ⟨by show (p.types ++ [x]).length ≤ m; rw [List.length_append, List.length_singleton]; omega, Nat.le_trans f1 (by omega), Nat.le_trans f2 (by omega), Nat.le_trans f3 (by omega), Nat.le_trans f4 (by omega)⟩
theorem few_decls {p : Pg} {n m : Nat} (h : Few p n) (hm : n + 1 ≤ m) (x : Dcl) : Few (.mk p.types (p.decls ++ [x]) p.comps p.inits p.clauses) m := by
  obtain ⟨f0, f1, f2, f3, f4⟩ := h
  exact ⟨Nat.le_trans f0 (by omega), by show (p.decls ++ [x]).length ≤ m; rw [List.length_append, List.length_singleton]; omega, Nat.le_trans f2 (by omega), Nat.le_trans f3 (by omega), Nat.le_trans f4 (by omega)⟩
theorem few_comps {p : Pg} {n m : Nat} (h : Few p n) (hm : n + 1 ≤ m) (x : (Txt × List Txt × Pg × Int)) : Few (.mk p.types p.decls (p.comps ++ [x]) p.inits p.clauses) m := by
  obtain ⟨f0, f1, f2, f3, f4⟩ := h
  exact ⟨Nat.le_trans f0 (by omega), Nat.le_trans f1 (by omega), by show (p.comps ++ [x]).length ≤ m; rw [List.length_append, List.length_singleton]; omega, Nat.le_trans f3 (by omega), Nat.le_trans f4 (by omega)⟩
theorem few_inits {p : Pg} {n m : Nat} (h : Few p n) (hm : n + 1 ≤ m) (x : Ini) : Few (.mk p.types p.decls p.comps (p.inits ++ [x]) p.clauses) m := by
  obtain ⟨f0, f1, f2, f3, f4⟩ := h
  exact ⟨Nat.le_trans f0 (by omega), Nat.le_trans f1 (by omega), Nat.le_trans f2 (by omega), by show (p.inits ++ [x]).length ≤ m; rw [List.length_append, List.length_singleton]; omega, Nat.le_trans f4 (by omega)⟩
theorem few_clauses {p : Pg} {n m : Nat} (h : Few p n) (hm : n + 1 ≤ m) (x : Cls) : Few (.mk p.types p.decls p.comps p.inits (p.clauses ++ [x])) m := by
  obtain ⟨f0, f1, f2, f3, f4⟩ := h
  exact ⟨Nat.le_trans f0 (by omega), Nat.le_trans f1 (by omega), Nat.le_trans f2 (by omega), Nat.le_trans f3 (by omega), by show (p.clauses ++ [x]).length ≤ m; rw [List.length_append, List.length_singleton]; omega⟩
theorem item_gr {d : Nat} {C : Pr (Txt × List Txt × Pg × Int)} (hC : GrS C) {p q : Pg} {l l' : List Tok} {i i' : Nat} (h : itemP e d C p l i = .ok q l' i') : l'.length < l.length ∧ i < i' ∧ (i ≤ 96 → i' ≤ 96) ∧ (Few p i → Few q i') := by
  unfold itemP at h
  split at h
  · cases h
  · split at h
    · obtain ⟨x, h1, rfl⟩ := map_ok h
      have g1 := sst_type _ _ _ _ _ h1
      have g2 := ik_type _ _ _ _ _ h1
      exact ⟨g1, by omega, by omega, fun hf => few_types hf (by omega) x⟩
    · split at h
      · obtain ⟨x, h1, rfl⟩ := map_ok h
        have g1 := sst_decl _ _ _ _ _ h1
        have g2 := ik_decl _ _ _ _ _ h1
        exact ⟨g1, by omega, by omega, fun hf => few_decls hf (by omega) x⟩
      · split at h
        · obtain ⟨x, h1, rfl⟩ := map_ok h
          obtain ⟨g1, g2, g3⟩ := hC _ _ _ _ _ h1
          exact ⟨g1, by omega, by omega, fun hf => few_comps hf (by omega) x⟩
        · split at h
          · obtain ⟨x, h1, rfl⟩ := map_ok h
            have g1 := sst_init _ _ _ _ _ h1
            have g2 := ik_init _ _ _ _ _ h1
            exact ⟨g1, by omega, by omega, fun hf => few_inits hf (by omega) x⟩
          · obtain ⟨x, h1, rfl⟩ := map_ok h
            have g1 := sst_clause _ _ _ _ _ _ h1
            have g2 := ik_clause _ _ _ _ _ _ h1
            exact ⟨g1, by omega, by omega, fun hf => few_clauses hf (by omega) x⟩
theorem progL_gr {d : Nat} {top : Bool} {C : Pr (Txt × List Txt × Pg × Int)} (hC : GrS C) : ∀ f p, Gr (progL e top d C f p)
  | 0, p, l, i, x, l', i', h => by cases h; exact ⟨Nat.le_refl _, Nat.le_refl _, fun h => h⟩
  | f + 1, p, l, i, x, l', i', h => by
    unfold progL at h
    split at h
    · cases h; exact ⟨Nat.le_refl _, Nat.le_refl _, fun h => h⟩
    · obtain ⟨a, l1, i1, h1, h2⟩ := bind_ok h
      obtain ⟨g1, g2, g3, _⟩ := item_gr hC h1
      obtain ⟨k1, k2, k3⟩ := progL_gr hC f _ _ _ _ _ _ h2
      exact ⟨by omega, by omega, fun hi => k3 (g3 hi)⟩
theorem comp_gr {B : Pr Pg} (hB : Gr B) : GrS (compB e B) := fun l i x l' i' h => by
  unfold compB at h
  obtain ⟨a, l1, i1, h1, h2⟩ := bind_ok h
  obtain ⟨b, l2, i2, h3, h4⟩ := bind_ok h2
  obtain ⟨c, l3, i3, h5, h6⟩ := bind_ok h4
  obtain ⟨q, l4, i4, h7, h8⟩ := bind_ok h6
  obtain ⟨r, h9, _⟩ := map_ok h8
  have g1 := sst_word _ _ _ _ _ h1
  have g1' := ik_word _ _ _ _ _ h1
  have gb : l2.length ≤ l1.length ∧ i2 = i1 := by
    split at h3
    · have := shr_list shr_nm _ _ _ _ _ h3
      have := ik_list ik_nm _ _ _ _ _ h3
      have := drop_le l1
      exact ⟨by omega, by omega⟩
    · cases h3; exact ⟨Nat.le_refl _, rfl⟩
  have g3 := shr_want _ _ _ _ _ _ h5
  have g3' := ik_want _ _ _ _ _ _ h5
  obtain ⟨g4, g5, g6⟩ := hB _ _ _ _ _ h7
  have g7 := shr_want _ _ _ _ _ _ h9
  have g7' := ik_want _ _ _ _ _ _ h9
  have := drop_le l
  exact ⟨by omega, by omega, by omega⟩
theorem compC_gr : ∀ d, GrS (compC e d)
  | 0 => fun _ _ _ _ _ h => by cases h
  | d + 1 => comp_gr (fun l i x l' i' h => by rw [progD_eq] at h; exact progL_gr (compC_gr d) _ _ _ _ _ _ _ h)
end
end Go.Proofs.YtdjehbdpcdikkaaGreatDoor

namespace Go.Proofs.YtdjehbdpcdikkaaGreatDoor
open Go.RowKit Go.Maps

abbrev coZ : Obj := .cells #[.string ⟨#[]⟩, .slice none 0 0, .slice none 0 0, .slice none 0 0, .slice none 0 0, .slice none 0 0, .slice none 0 0, .int .i64 0] 70
theorem cl8 {w : World} {b : Nat} {T : TypeId} {v0 v1 v2 v3 v4 v5 v6 v7 : Value} (h : w.heap[b]? = some (.cells #[v0, v1, v2, v3, v4, v5, v6, v7] T (0, 0))) :
    w.cell? ⟨b, 0, none⟩ = some v0 ∧ w.cell? ⟨b, 1, none⟩ = some v1 ∧ w.cell? ⟨b, 2, none⟩ = some v2 ∧ w.cell? ⟨b, 3, none⟩ = some v3 ∧ w.cell? ⟨b, 4, none⟩ = some v4 ∧ w.cell? ⟨b, 5, none⟩ = some v5 ∧ w.cell? ⟨b, 6, none⟩ = some v6 ∧ w.cell? ⟨b, 7, none⟩ = some v7 ∧ ∀ o, w.frozen? ⟨b, o, none⟩ = false :=
  ⟨(cell_hp h 0).trans rfl, (cell_hp h 1).trans rfl, (cell_hp h 2).trans rfl, (cell_hp h 3).trans rfl, (cell_hp h 4).trans rfl, (cell_hp h 5).trans rfl, (cell_hp h 6).trans rfl, (cell_hp h 7).trans rfl, fun o => by simp [World.frozen?, h]⟩
def coStore (p v : Value) : Sem Unit := Instr.storeAt 70 p v
theorem storeAt_co (p v : Value) : Instr.storeAt 70 p v = coStore p v := rfl
def coLoad (x : Value) : Sem Value := Instr.loadAt 70 x
theorem loadAt_co (x : Value) : Instr.loadAt 70 x = coLoad x := rfl
theorem size_co : (Tryz.prog.info? 70).map (·.size) = some 8 := by kernel_rfl
theorem co_new (w : World) (a : Int) : (coStore (.pointer (some ⟨w.heap.size, 0, none⟩)) (.agg #[.string ⟨#[]⟩, .slice none 0 0, .slice none 0 0, .slice none 0 0, .slice none 0 0, .slice none 0 0, .slice none 0 0, .int .i64 a])).run Tryz.prog (w.alloc (.cells #[.string ⟨#[]⟩, .slice none 0 0, .slice none 0 0, .slice none 0 0, .slice none 0 0, .slice none 0 0, .slice none 0 0, .int .i64 0] 70)) = .ok () (w.alloc (.cells #[.string ⟨#[]⟩, .slice none 0 0, .slice none 0 0, .slice none 0 0, .slice none 0 0, .slice none 0 0, .slice none 0 0, .int .i64 a] 70)) :=
  run_storeAt_new w 70 _ _ size_co rfl (by simp [Value.oneCell'])
/-- A list's value is a slice. -/
theorem LsAt.sl {α : Type} {p : PS α} {k : Nat} {S : Nat → Prop} {w : World} {v : Value} {xs : List α} (h : LsAt p k S w v xs) : ∃ a c, v = .slice a xs.length c := by
  obtain ⟨a, c, _, e, _⟩ := h
  exact ⟨a, c, e⟩
theorem pco_one {S : Nat → Prop} {w : World} {cs : List Value} {x : Cp} (h : PCo S w cs x) : ∀ c ∈ cs, c.oneCell' = true := by
  obtain ⟨vb, bd, rfl, h2, h3, h4⟩ := h
  obtain ⟨v0, v1, v2, v3, v4, rfl, g0, g1, g2, g3, g4⟩ := h4.cells
  obtain ⟨_, _, rfl⟩ := h3.sl
  obtain ⟨_, _, rfl⟩ := g0.sl
  obtain ⟨_, _, rfl⟩ := g1.sl
  obtain ⟨_, _, rfl⟩ := g2.sl
  obtain ⟨_, _, rfl⟩ := g3.sl
  obtain ⟨_, _, rfl⟩ := g4.sl
  simp [Value.oneCell', str]
set_option maxHeartbeats 2000000 in
/-- A component is loaded, and stored in the result. -/
theorem co_end {rb e dp xb : Nat} {w w8 : World} {l : List Tok} {it : Nat} {x : Cp} {S : Nat → Prop} {v0 v1 v2 v3 v4 v5 v6 v7 : Value} (n8 : w8.heap[xb]? = some (.cells #[v0, v1, v2, v3, v4, v5, v6, v7] 70 (0, 0))) (q8 : w8.heap[w.heap.size]? = some coZ) (hX : PCo S w8 [v0, v1, v2, v3, v4, v5, v6, v7] x) (hS : ∀ b, S b → w.heap.size ≤ b ∧ b ≠ w.heap.size) (hR : Rd rb e w8 l it dp) (k : Kp rb w w8) (hrb : rb < w.heap.size) :
    ∃ w9, (coLoad (.pointer (some ⟨xb, 0, none⟩))).run Tryz.prog w8 = .ok (.agg #[v0, v1, v2, v3, v4, v5, v6, v7]) w8 ∧ (coStore (.pointer (some ⟨w.heap.size, 0, none⟩)) (.agg #[v0, v1, v2, v3, v4, v5, v6, v7])).run Tryz.prog w8 = .ok () w9 ∧ w9.heap[w.heap.size]? = some (.cells #[v0, v1, v2, v3, v4, v5, v6, v7] 70 (0, 0)) ∧ PCo (fun b => w.heap.size ≤ b) w9 [v0, v1, v2, v3, v4, v5, v6, v7] x ∧ Rd rb e w9 l it dp ∧ Kp rb w w9 := by
  have hsame : ∀ b, b ≠ w.heap.size → ((((((((w8.setCell ⟨w.heap.size, 0, none⟩ (v0)).setCell ⟨w.heap.size, 1, none⟩ (v1)).setCell ⟨w.heap.size, 2, none⟩ (v2)).setCell ⟨w.heap.size, 3, none⟩ (v3)).setCell ⟨w.heap.size, 4, none⟩ (v4)).setCell ⟨w.heap.size, 5, none⟩ (v5)).setCell ⟨w.heap.size, 6, none⟩ (v6)).setCell ⟨w.heap.size, 7, none⟩ (v7)).heap[b]? = w8.heap[b]? := fun b hb => by
    rw [Below.heap_setCell _ _ _ _ hb, Below.heap_setCell _ _ _ _ hb, Below.heap_setCell _ _ _ _ hb, Below.heap_setCell _ _ _ _ hb, Below.heap_setCell _ _ _ _ hb, Below.heap_setCell _ _ _ _ hb, Below.heap_setCell _ _ _ _ hb, Below.heap_setCell _ _ _ _ hb]
  have hF : PCo (fun b => w.heap.size ≤ b) ((((((((w8.setCell ⟨w.heap.size, 0, none⟩ (v0)).setCell ⟨w.heap.size, 1, none⟩ (v1)).setCell ⟨w.heap.size, 2, none⟩ (v2)).setCell ⟨w.heap.size, 3, none⟩ (v3)).setCell ⟨w.heap.size, 4, none⟩ (v4)).setCell ⟨w.heap.size, 5, none⟩ (v5)).setCell ⟨w.heap.size, 6, none⟩ (v6)).setCell ⟨w.heap.size, 7, none⟩ (v7)) [v0, v1, v2, v3, v4, v5, v6, v7] x ∧ Rd rb e ((((((((w8.setCell ⟨w.heap.size, 0, none⟩ (v0)).setCell ⟨w.heap.size, 1, none⟩ (v1)).setCell ⟨w.heap.size, 2, none⟩ (v2)).setCell ⟨w.heap.size, 3, none⟩ (v3)).setCell ⟨w.heap.size, 4, none⟩ (v4)).setCell ⟨w.heap.size, 5, none⟩ (v5)).setCell ⟨w.heap.size, 6, none⟩ (v6)).setCell ⟨w.heap.size, 7, none⟩ (v7)) l it dp ∧ Kp rb w ((((((((w8.setCell ⟨w.heap.size, 0, none⟩ (v0)).setCell ⟨w.heap.size, 1, none⟩ (v1)).setCell ⟨w.heap.size, 2, none⟩ (v2)).setCell ⟨w.heap.size, 3, none⟩ (v3)).setCell ⟨w.heap.size, 4, none⟩ (v4)).setCell ⟨w.heap.size, 5, none⟩ (v5)).setCell ⟨w.heap.size, 6, none⟩ (v6)).setCell ⟨w.heap.size, 7, none⟩ (v7)) := ⟨pco_ok.mono _ _ _ _ _ (pco_ok.same _ _ _ _ _ hX (by simp [World.setCell]) (fun b hb _ => hsame b (hS b hb).2)) (fun b _ hb => (hS b hb).1), ((((((((hR.set2 (by omega)).set2 (by omega)).set2 (by omega)).set2 (by omega)).set2 (by omega)).set2 (by omega)).set2 (by omega)).set2 (by omega)), ((((((((k.set2 (by omega)).set2 (by omega)).set2 (by omega)).set2 (by omega)).set2 (by omega)).set2 (by omega)).set2 (by omega)).set2 (by omega))⟩
  refine ⟨_, ?_, ?_, ?_, hF⟩
  · refine run_loadAt_mid w8 xb 0 70 [v0, v1, v2, v3, v4, v5, v6, v7] _ (fun q v hq => ?_) Tryz.underlying70 rfl size_co
    rw [Lib.cell_of_heap n8, Nat.zero_add, ← hq]
    simp
  · refine run_storeAt_mid w8 w.heap.size 0 70 #[v0, v1, v2, v3, v4, v5, v6, v7] (fun j hj => ⟨?_, Lib.frozen_of_heap q8 _⟩) size_co (by have := pco_one hX; simpa using this)
    have hj : j < 8 := hj
    rw [Lib.cell_of_heap q8]
    rcases (by omega : j = 0 ∨ j = 1 ∨ j = 2 ∨ j = 3 ∨ j = 4 ∨ j = 5 ∨ j = 6 ∨ j = 7) with rfl | rfl | rfl | rfl | rfl | rfl | rfl | rfl <;> rfl
  · have m0 : (w8.setCell ⟨w.heap.size, 0, none⟩ v0).heap[w.heap.size]? = some (.cells #[v0, .slice none 0 0, .slice none 0 0, .slice none 0 0, .slice none 0 0, .slice none 0 0, .slice none 0 0, .int .i64 0] 70 (0, 0)) := (set_hp q8 0 _).trans rfl
    have m1 : ((w8.setCell ⟨w.heap.size, 0, none⟩ v0).setCell ⟨w.heap.size, 1, none⟩ v1).heap[w.heap.size]? = some (.cells #[v0, v1, .slice none 0 0, .slice none 0 0, .slice none 0 0, .slice none 0 0, .slice none 0 0, .int .i64 0] 70 (0, 0)) := (set_hp m0 1 _).trans rfl
    have m2 : (((w8.setCell ⟨w.heap.size, 0, none⟩ v0).setCell ⟨w.heap.size, 1, none⟩ v1).setCell ⟨w.heap.size, 2, none⟩ v2).heap[w.heap.size]? = some (.cells #[v0, v1, v2, .slice none 0 0, .slice none 0 0, .slice none 0 0, .slice none 0 0, .int .i64 0] 70 (0, 0)) := (set_hp m1 2 _).trans rfl
    have m3 : ((((w8.setCell ⟨w.heap.size, 0, none⟩ v0).setCell ⟨w.heap.size, 1, none⟩ v1).setCell ⟨w.heap.size, 2, none⟩ v2).setCell ⟨w.heap.size, 3, none⟩ v3).heap[w.heap.size]? = some (.cells #[v0, v1, v2, v3, .slice none 0 0, .slice none 0 0, .slice none 0 0, .int .i64 0] 70 (0, 0)) := (set_hp m2 3 _).trans rfl
    have m4 : (((((w8.setCell ⟨w.heap.size, 0, none⟩ v0).setCell ⟨w.heap.size, 1, none⟩ v1).setCell ⟨w.heap.size, 2, none⟩ v2).setCell ⟨w.heap.size, 3, none⟩ v3).setCell ⟨w.heap.size, 4, none⟩ v4).heap[w.heap.size]? = some (.cells #[v0, v1, v2, v3, v4, .slice none 0 0, .slice none 0 0, .int .i64 0] 70 (0, 0)) := (set_hp m3 4 _).trans rfl
    have m5 : ((((((w8.setCell ⟨w.heap.size, 0, none⟩ v0).setCell ⟨w.heap.size, 1, none⟩ v1).setCell ⟨w.heap.size, 2, none⟩ v2).setCell ⟨w.heap.size, 3, none⟩ v3).setCell ⟨w.heap.size, 4, none⟩ v4).setCell ⟨w.heap.size, 5, none⟩ v5).heap[w.heap.size]? = some (.cells #[v0, v1, v2, v3, v4, v5, .slice none 0 0, .int .i64 0] 70 (0, 0)) := (set_hp m4 5 _).trans rfl
    have m6 : (((((((w8.setCell ⟨w.heap.size, 0, none⟩ v0).setCell ⟨w.heap.size, 1, none⟩ v1).setCell ⟨w.heap.size, 2, none⟩ v2).setCell ⟨w.heap.size, 3, none⟩ v3).setCell ⟨w.heap.size, 4, none⟩ v4).setCell ⟨w.heap.size, 5, none⟩ v5).setCell ⟨w.heap.size, 6, none⟩ v6).heap[w.heap.size]? = some (.cells #[v0, v1, v2, v3, v4, v5, v6, .int .i64 0] 70 (0, 0)) := (set_hp m5 6 _).trans rfl
    have m7 : ((((((((w8.setCell ⟨w.heap.size, 0, none⟩ v0).setCell ⟨w.heap.size, 1, none⟩ v1).setCell ⟨w.heap.size, 2, none⟩ v2).setCell ⟨w.heap.size, 3, none⟩ v3).setCell ⟨w.heap.size, 4, none⟩ v4).setCell ⟨w.heap.size, 5, none⟩ v5).setCell ⟨w.heap.size, 6, none⟩ v6).setCell ⟨w.heap.size, 7, none⟩ v7).heap[w.heap.size]? = some (.cells #[v0, v1, v2, v3, v4, v5, v6, v7] 70 (0, 0)) := (set_hp m6 7 _).trans rfl
    exact m7
/-- A program's value. -/
def VPg (S : Nat → Prop) (w : World) (v : Value) (x : Pg) : Prop := ∃ a0 n0 c0 a1 n1 c1 a2 n2 c2 a3 n3 c3 a4 n4 c4, v = .agg #[.slice a0 n0 c0, .slice a1 n1 c1, .slice a2 n2 c2, .slice a3 n3 c3, .slice a4 n4 c4] ∧ PgS S w [.slice a0 n0 c0, .slice a1 n1 c1, .slice a2 n2 c2, .slice a3 n3 c3, .slice a4 n4 c4] x
/-- A component's value. -/
def VCo (S : Nat → Prop) (w : World) (v : Value) (x : Cp) : Prop := ∃ ba bn bc a0 n0 c0 a1 n1 c1 a2 n2 c2 a3 n3 c3 a4 n4 c4, v = .agg #[str x.1, .slice ba bn bc, .slice a0 n0 c0, .slice a1 n1 c1, .slice a2 n2 c2, .slice a3 n3 c3, .slice a4 n4 c4, .int .i64 x.2.2.2] ∧ PCo S w [str x.1, .slice ba bn bc, .slice a0 n0 c0, .slice a1 n1 c1, .slice a2 n2 c2, .slice a3 n3 c3, .slice a4 n4 c4, .int .i64 x.2.2.2] x
end Go.Proofs.YtdjehbdpcdikkaaGreatDoor
