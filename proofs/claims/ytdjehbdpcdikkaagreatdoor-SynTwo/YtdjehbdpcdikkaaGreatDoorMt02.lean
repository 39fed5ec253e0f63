/- The plain reading: how many items have begun; what is taken. -/
import Derived.Test.YtdjehbdpcdikkaaGreatDoorMt01
namespace Go.Proofs.YtdjehbdpcdikkaaGreatDoor

/-- No item begins. -/
def IK {α : Type} (p : Pr α) : Prop := ∀ l i x l' i', p l i = .ok x l' i' → i' = i
section
variable {e : Nat}
theorem ik_want (s : Txt) : IK (want e s) := fun l i x l' i' h => by
 unfold want at h
 split at h
 · cases h; rfl
 · cases h
theorem ik_choose (ss : List Txt) : IK (choose e ss) := fun l i x l' i' h => by
 unfold choose at h
 split at h
 · cases h; rfl
 · cases h
theorem ik_nm : IK (nmQ e) := fun l i x l' i' h => by
 unfold nmQ at h
 split at h
 · cases h; rfl
 · cases h
theorem ik_word : IK (wordQ e) := fun l i x l' i' h => by
 unfold wordQ at h
 split at h
 · cases h; rfl
 · cases h
theorem ik_refuse {α : Type} (why : Int) : IK (refuse (α := α) e why) := fun l i x l' i' h => by cases h
theorem ik_listL {α : Type} {sep : Txt} {most : Nat} {p : Pr α} (hp : IK p) : ∀ f acc, IK (listL e sep most p f acc)
 | 0, acc, l, i, x, l', i', h => by cases h; rfl
 | f + 1, acc, l, i, x, l', i', h => by
  unfold listL at h
  split at h
  · cases h
  ·
   obtain ⟨a, l1, i1, h1, h2⟩ := bind_ok h
   have g1 := hp _ _ _ _ _ h1
   split at h2
   ·
    have := ik_listL hp f _ _ _ _ _ _ h2
    omega
   · cases h2; exact g1
theorem ik_list {α : Type} {sep : Txt} {most : Nat} {p : Pr α} (hp : IK p) : IK (listP e sep most p) := fun _ _ _ _ _ h => ik_listL hp _ _ _ _ _ _ _ h
theorem ik_encl {α : Type} {op cl : Txt} {p : Pr α} (hp : IK p) : IK (encl e op cl p) := fun l i x l' i' h => by
 unfold encl at h
 obtain ⟨a, l1, i1, h1, h2⟩ := bind_ok h
 have g1 := ik_want _ _ _ _ _ _ h1
 split at h2
 ·
  cases h2
  omega
 ·
  obtain ⟨b, l2, i2, h3, h4⟩ := bind_ok h2
  have g2 := ik_list hp _ _ _ _ _ h3
  obtain ⟨c, h5, _⟩ := map_ok h4
  have g3 := ik_want _ _ _ _ _ _ h5
  omega
theorem ik_joinL {p : Pr Ex} {ss : List Txt} (hp : IK p) : ∀ f x, IK (joinL e p ss f x)
 | 0, x, l, i, y, l', i', h => by cases h; rfl
 | f + 1, x, l, i, y, l', i', h => by
  unfold joinL at h
  split at h
  ·
   obtain ⟨a, l1, i1, h1, h2⟩ := bind_ok h
   have g1 := hp _ _ _ _ _ h1
   have g2 := ik_joinL hp f _ _ _ _ _ _ h2
   omega
  · cases h; rfl
theorem ik_joined {p : Pr Ex} {ss : List Txt} (hp : IK p) : IK (joined e p ss) := fun l i x l' i' h => by
 unfold joined at h
 obtain ⟨a, l1, i1, h1, h2⟩ := bind_ok h
 have g1 := hp _ _ _ _ _ h1
 have g2 := ik_joinL hp _ _ _ _ _ _ _ h2
 omega
theorem ik_signed {E F : Pr Ex} (hE : IK E) (hF : IK F) : IK (signed e E F) := fun l i x l' i' h => by
 unfold signed at h
 obtain ⟨a, l1, i1, h1, h2⟩ := bind_ok h
 have g1 := ik_choose _ _ _ _ _ _ h1
 split at h2
 ·
  obtain ⟨b, h3, _⟩ := map_ok h2
  have := hF _ _ _ _ _ h3
  omega
 ·
  split at h2
  ·
   obtain ⟨b, l2, i2, h3, h4⟩ := bind_ok h2
   obtain ⟨c, h5, _⟩ := map_ok h4
   have g2 := hE _ _ _ _ _ h3
   have g3 := ik_want _ _ _ _ _ _ h5
   omega
  ·
   obtain ⟨b, l2, i2, h3, h4⟩ := bind_ok h2
   obtain ⟨c, h5, _⟩ := map_ok h4
   have g2 := ik_word _ _ _ _ _ h3
   have g3 := ik_encl hE _ _ _ _ _ h5
   omega
theorem ik_factor {E F : Pr Ex} (hE : IK E) (hF : IK F) : IK (factorB e E F) := fun l i x l' i' h => by
 unfold factorB at h
 split at h
 · cases h; rfl
 ·
  split at h
  · cases h; rfl
  ·
   split at h
   ·
    split at h
    · cases h; rfl
    ·
     obtain ⟨b, h3, _⟩ := map_ok h
     exact ik_word _ _ _ _ _ h3
   · exact ik_signed hE hF _ _ _ _ _ h
theorem ik_ex : ∀ d, IK (exD e d).1 ∧ IK (exD e d).2
 | 0 => ⟨ik_refuse 4, ik_refuse 4⟩
 | d + 1 => ⟨ik_joined (ik_joined (ik_ex d).2), ik_factor (ik_ex d).1 (ik_ex d).2⟩
theorem ik_atom (d : Nat) : IK (atomP e d) := fun l i x l' i' h => by
 unfold atomP at h
 obtain ⟨a, l1, i1, h1, h2⟩ := bind_ok h
 obtain ⟨b, h3, _⟩ := map_ok h2
 have g1 := ik_nm _ _ _ _ _ h1
 have g2 := ik_encl (ik_ex d).1 _ _ _ _ _ h3
 omega
theorem ik_lit (d : Nat) : IK (litP e d) := fun l i x l' i' h => by
 unfold litP at h
 split at h
 ·
  obtain ⟨b, h3, _⟩ := map_ok h
  have := ik_atom d _ _ _ _ _ h3
  omega
 ·
  split at h
  ·
   obtain ⟨b, h3, _⟩ := map_ok h
   exact ik_atom d _ _ _ _ _ h3
  ·
   obtain ⟨a, l1, i1, h1, h2⟩ := bind_ok h
   obtain ⟨b, l2, i2, h3, h4⟩ := bind_ok h2
   obtain ⟨c, h5, _⟩ := map_ok h4
   have g1 := (ik_ex d).1 _ _ _ _ _ h1
   have g2 := ik_choose _ _ _ _ _ _ h3
   have g3 := (ik_ex d).1 _ _ _ _ _ h5
   omega
theorem ik_field : IK (fieldP e) := fun l i x l' i' h => by
 unfold fieldP at h
 obtain ⟨a, l1, i1, h1, h2⟩ := bind_ok h
 obtain ⟨b, l2, i2, h3, h4⟩ := bind_ok h2
 obtain ⟨c, h5, _⟩ := map_ok h4
 have g1 := ik_word _ _ _ _ _ h1
 have g2 := ik_want _ _ _ _ _ _ h3
 have g3 := ik_nm _ _ _ _ _ h5
 omega
theorem ik_ctor : IK (ctorP e) := fun l i x l' i' h => by
 unfold ctorP at h
 obtain ⟨a, l1, i1, h1, h2⟩ := bind_ok h
 obtain ⟨b, h3, _⟩ := map_ok h2
 have g1 := ik_word _ _ _ _ _ h1
 have g2 := ik_encl ik_field _ _ _ _ _ h3
 omega
theorem ik_clause (d : Nat) : IK (clauseP e d) := fun l i x l' i' h => by
 unfold clauseP at h
 obtain ⟨a, l1, i1, h1, h2⟩ := bind_ok h
 have g1 := ik_atom d _ _ _ _ _ h1
 split at h2
 ·
  obtain ⟨b, l2, i2, h3, h4⟩ := bind_ok h2
  obtain ⟨c, h5, _⟩ := map_ok h4
  have g2 := ik_list (ik_lit d) _ _ _ _ _ h3
  have g3 := ik_want _ _ _ _ _ _ h5
  omega
 ·
  obtain ⟨c, h5, _⟩ := map_ok h2
  have g3 := ik_want _ _ _ _ _ _ h5
  omega
theorem ik_type : IK (typeP e) := fun l i x l' i' h => by
 unfold typeP at h
 obtain ⟨a, l1, i1, h1, h2⟩ := bind_ok h
 obtain ⟨b, l2, i2, h3, h4⟩ := bind_ok h2
 have g1 := ik_word _ _ _ _ _ h1
 have g2 := ik_choose _ _ _ _ _ _ h3
 split at h4
 ·
  obtain ⟨c, h5, _⟩ := map_ok h4
  have g3 := ik_nm _ _ _ _ _ h5
  omega
 ·
  obtain ⟨c, h5, _⟩ := map_ok h4
  have g3 := ik_list ik_ctor _ _ _ _ _ h5
  omega
theorem ik_flagL : ∀ f a b, IK (flagL e f a b)
 | 0, a, b, l, i, x, l', i', h => by cases h; rfl
 | f + 1, a, b, l, i, x, l', i', h => by
  unfold flagL at h
  split at h
  ·
   split at h
   · exact ik_flagL f _ _ _ _ _ _ _ h
   ·
    split at h
    · exact ik_flagL f _ _ _ _ _ _ _ h
    · cases h; rfl
  · cases h; rfl
theorem shr_flagL : ∀ f a b, Shr (flagL e f a b)
 | 0, a, b, l, i, x, l', i', h => by cases h; exact Nat.le_refl _
 | f + 1, a, b, l, i, x, l', i', h => by
  have hd := drop_le l
  unfold flagL at h
  split at h
  ·
   split at h
   · exact Nat.le_trans (shr_flagL f _ _ _ _ _ _ _ h) hd
   ·
    split at h
    · exact Nat.le_trans (shr_flagL f _ _ _ _ _ _ _ h) hd
    · cases h; exact Nat.le_refl _
  · cases h; exact Nat.le_refl _
theorem ik_decl : IK (declP e) := fun l i x l' i' h => by
 unfold declP at h
 obtain ⟨a, l1, i1, h1, h2⟩ := bind_ok h
 obtain ⟨b, l2, i2, h3, h4⟩ := bind_ok h2
 obtain ⟨c, h5, _⟩ := map_ok h4
 have g1 := ik_word _ _ _ _ _ h1
 have g2 := ik_encl ik_field _ _ _ _ _ h3
 have g3 := ik_flagL _ _ _ _ _ _ _ _ h5
 omega
theorem ik_init : IK (initP e) := fun l i x l' i' h => by
 unfold initP at h
 obtain ⟨a, l1, i1, h1, h2⟩ := bind_ok h
 obtain ⟨b, l2, i2, h3, h4⟩ := bind_ok h2
 obtain ⟨c, h5, _⟩ := map_ok h4
 have g1 := ik_word _ _ _ _ _ h1
 have g2 := ik_want _ _ _ _ _ _ h3
 have g3 := ik_nm _ _ _ _ _ h5
 omega
/-- Something is taken. -/
def Sst {α : Type} (p : Pr α) : Prop := ∀ l i x l' i', p l i = .ok x l' i' → l'.length < l.length
theorem drop_lt {l : List Tok} (h : l ≠ []) : (l.drop 1).length < l.length := by
 cases l with
 | nil => exact absurd rfl h
 | cons t l => simp
theorem sst_nm : Sst (nmQ e) := fun l i x l' i' h => by
 unfold nmQ at h
 split at h
 · next hk => cases h; exact drop_lt (fun e => by subst e; simp [ahd] at hk)
 · cases h
theorem sst_word : Sst (wordQ e) := fun l i x l' i' h => by
 unfold wordQ at h
 split at h
 · next hk => cases h; exact drop_lt (fun e => by subst e; simp [ahd, isW1] at hk)
 · cases h
theorem sst_atom (d : Nat) : Sst (atomP e d) := fun l i x l' i' h => by
 unfold atomP at h
 obtain ⟨a, l1, i1, h1, h2⟩ := bind_ok h
 obtain ⟨b, h3, _⟩ := map_ok h2
 have g1 := sst_nm _ _ _ _ _ h1
 have g2 := shr_encl (shr_ex d).1 _ _ _ _ _ h3
 omega
theorem sst_clause (d : Nat) : Sst (clauseP e d) := fun l i x l' i' h => by
 unfold clauseP at h
 obtain ⟨a, l1, i1, h1, h2⟩ := bind_ok h
 have g1 := sst_atom d _ _ _ _ _ h1
 split at h2
 ·
  obtain ⟨b, l2, i2, h3, h4⟩ := bind_ok h2
  obtain ⟨c, h5, _⟩ := map_ok h4
  have g2 := shr_list (shr_lit d) _ _ _ _ _ h3
  have g3 := shr_want _ _ _ _ _ _ h5
  have := drop_le l1
  omega
 ·
  obtain ⟨c, h5, _⟩ := map_ok h2
  have g3 := shr_want _ _ _ _ _ _ h5
  omega
theorem sst_type : Sst (typeP e) := fun l i x l' i' h => by
 unfold typeP at h
 obtain ⟨a, l1, i1, h1, h2⟩ := bind_ok h
 obtain ⟨b, l2, i2, h3, h4⟩ := bind_ok h2
 have g1 := sst_word _ _ _ _ _ h1
 have g2 := shr_choose _ _ _ _ _ _ h3
 have := drop_le l
 split at h4
 ·
  obtain ⟨c, h5, _⟩ := map_ok h4
  have g3 := shr_nm _ _ _ _ _ h5
  omega
 ·
  obtain ⟨c, h5, _⟩ := map_ok h4
  have g3 := shr_list shr_ctor _ _ _ _ _ h5
  omega
theorem sst_decl : Sst (declP e) := fun l i x l' i' h => by
 unfold declP at h
 obtain ⟨a, l1, i1, h1, h2⟩ := bind_ok h
 obtain ⟨b, l2, i2, h3, h4⟩ := bind_ok h2
 obtain ⟨c, h5, _⟩ := map_ok h4
 have g1 := sst_word _ _ _ _ _ h1
 have g2 := shr_encl shr_field _ _ _ _ _ h3
 have g3 := shr_flagL _ _ _ _ _ _ _ _ h5
 have := drop_le l
 omega
theorem sst_init : Sst (initP e) := fun l i x l' i' h => by
 unfold initP at h
 obtain ⟨a, l1, i1, h1, h2⟩ := bind_ok h
 obtain ⟨b, l2, i2, h3, h4⟩ := bind_ok h2
 obtain ⟨c, h5, _⟩ := map_ok h4
 have g1 := sst_word _ _ _ _ _ h1
 have g2 := shr_want _ _ _ _ _ _ h3
 have g3 := shr_nm _ _ _ _ _ h5
 have := drop_le l
 omega
/-- A component, where d more may be begun. -/
def compC (e : Nat) : Nat → Pr (Txt × List Txt × Pg × Int)
 | 0 => refuse e 4
 | d + 1 => compB e (progD e d false)
theorem progD_eq (d : Nat) (top : Bool) (l : List Tok) (i : Nat) : progD e d top l i = progL e top d (compC e d) (l.length + 1) .none l i := by cases d <;> rfl
def Gr {α : Type} (p : Pr α) : Prop := ∀ l i x l' i', p l i = .ok x l' i' → l'.length ≤ l.length ∧ i ≤ i' ∧ (i ≤ 96 → i' ≤ 96)
def GrS {α : Type} (p : Pr α) : Prop := ∀ l i x l' i', p l i = .ok x l' i' → l'.length < l.length ∧ i ≤ i' ∧ (i ≤ 96 → i' ≤ 96)
/-- The lists of a program are no longer than n. -/
def Few (p : Pg) (n : Nat) : Prop := p.types.length ≤ n ∧ p.decls.length ≤ n ∧ p.comps.length ≤ n ∧ p.inits.length ≤ n ∧ p.clauses.length ≤ n
theorem few_types {p : Pg} {n m : Nat} (h : Few p n) (hm : n + 1 ≤ m) (x : Typ) : Few (.mk (p.types ++ [x]) p.decls p.comps p.inits p.clauses) m := by
 obtain ⟨f0, f1, f2, f3, f4⟩ := h
 exact ⟨by show (p.types ++ [x]).length ≤ m; rw [List.length_append, List.length_singleton]; omega, Nat.le_trans f1 (by omega), Nat.le_trans f2 (by omega), Nat.le_trans f3 (by omega), Nat.le_trans f4 (by omega)⟩
theorem few_decls {p : Pg} {n m : Nat} (h : Few p n) (hm : n + 1 ≤ m) (x : Dcl) : Few (.mk p.types (p.decls ++ [x]) p.comps p.inits p.clauses) m := by
 obtain ⟨f0, f1, f2, f3, f4⟩ := h
 exact ⟨Nat.le_trans f0 (by omega), by show (p.decls ++ [x]).length ≤ m; rw [List.length_append, List.length_singleton]; omega, Nat.le_trans f2 (by omega), Nat.le_trans f3 (by omega), Nat.le_trans f4 (by omega)⟩
theorem few_comps {p : Pg} {n m : Nat} (h : Few p n) (hm : n + 1 ≤ m) (x : (Txt × List Txt × Pg × Int)) : Few (.mk p.types p.decls (p.comps ++ [x]) p.inits p.clauses) m := by
 obtain ⟨f0, f1, f2, f3, f4⟩ := h
 exact ⟨Nat.le_trans f0 (by omega), Nat.le_trans f1 (by omega), by show (p.comps ++ [x]).length ≤ m; rw [List.length_append, List.length_singleton]; omega, Nat.le_trans f3 (by omega), Nat.le_trans f4 (by omega)⟩
theorem few_inits {p : Pg} {n m : Nat} (h : Few p n) (hm : n + 1 ≤ m) (x : Ini) : Few (.mk p.types p.decls p.comps (p.inits ++ [x]) p.clauses) m := by
 obtain ⟨f0, f1, f2, f3, f4⟩ := h
 exact ⟨Nat.le_trans f0 (by omega), Nat.le_trans f1 (by omega), Nat.le_trans f2 (by omega), by show (p.inits ++ [x]).length ≤ m; rw [List.length_append, List.length_singleton]; omega, Nat.le_trans f4 (by omega)⟩
theorem few_clauses {p : Pg} {n m : Nat} (h : Few p n) (hm : n + 1 ≤ m) (x : Cls) : Few (.mk p.types p.decls p.comps p.inits (p.clauses ++ [x])) m := by
 obtain ⟨f0, f1, f2, f3, f4⟩ := h
 exact ⟨Nat.le_trans f0 (by omega), Nat.le_trans f1 (by omega), Nat.le_trans f2 (by omega), Nat.le_trans f3 (by omega), by show (p.clauses ++ [x]).length ≤ m; rw [List.length_append, List.length_singleton]; omega⟩
theorem item_gr {d : Nat} {C : Pr (Txt × List Txt × Pg × Int)} (hC : GrS C) {p q : Pg} {l l' : List Tok} {i i' : Nat} (h : itemP e d C p l i = .ok q l' i') : l'.length < l.length ∧ i < i' ∧ (i ≤ 96 → i' ≤ 96) ∧ (Few p i → Few q i') := by
 unfold itemP at h
 split at h
 · cases h
 ·
  split at h
  ·
   obtain ⟨x, h1, rfl⟩ := map_ok h
   have g1 := sst_type _ _ _ _ _ h1
   have g2 := ik_type _ _ _ _ _ h1
   exact ⟨g1, by omega, by omega, fun hf => few_types hf (by omega) x⟩
  ·
   split at h
   ·
    obtain ⟨x, h1, rfl⟩ := map_ok h
    have g1 := sst_decl _ _ _ _ _ h1
    have g2 := ik_decl _ _ _ _ _ h1
    exact ⟨g1, by omega, by omega, fun hf => few_decls hf (by omega) x⟩
   ·
    split at h
    ·
     obtain ⟨x, h1, rfl⟩ := map_ok h
     obtain ⟨g1, g2, g3⟩ := hC _ _ _ _ _ h1
     exact ⟨g1, by omega, by omega, fun hf => few_comps hf (by omega) x⟩
    ·
     split at h
     ·
      obtain ⟨x, h1, rfl⟩ := map_ok h
      have g1 := sst_init _ _ _ _ _ h1
      have g2 := ik_init _ _ _ _ _ h1
      exact ⟨g1, by omega, by omega, fun hf => few_inits hf (by omega) x⟩
     ·
      obtain ⟨x, h1, rfl⟩ := map_ok h
      have g1 := sst_clause _ _ _ _ _ _ h1
      have g2 := ik_clause _ _ _ _ _ _ h1
      exact ⟨g1, by omega, by omega, fun hf => few_clauses hf (by omega) x⟩
theorem progL_gr {d : Nat} {top : Bool} {C : Pr (Txt × List Txt × Pg × Int)} (hC : GrS C) : ∀ f p, Gr (progL e top d C f p)
 | 0, p, l, i, x, l', i', h => by cases h; exact ⟨Nat.le_refl _, Nat.le_refl _, fun h => h⟩
 | f + 1, p, l, i, x, l', i', h => by
  unfold progL at h
  split at h
  · cases h; exact ⟨Nat.le_refl _, Nat.le_refl _, fun h => h⟩
  ·
   obtain ⟨a, l1, i1, h1, h2⟩ := bind_ok h
   obtain ⟨g1, g2, g3, _⟩ := item_gr hC h1
   obtain ⟨k1, k2, k3⟩ := progL_gr hC f _ _ _ _ _ _ h2
   exact ⟨by omega, by omega, fun hi => k3 (g3 hi)⟩
theorem comp_gr {B : Pr Pg} (hB : Gr B) : GrS (compB e B) := fun l i x l' i' h => by
 unfold compB at h
 obtain ⟨a, l1, i1, h1, h2⟩ := bind_ok h
 obtain ⟨b, l2, i2, h3, h4⟩ := bind_ok h2
 obtain ⟨c, l3, i3, h5, h6⟩ := bind_ok h4
 obtain ⟨q, l4, i4, h7, h8⟩ := bind_ok h6
 obtain ⟨r, h9, _⟩ := map_ok h8
 have g1 := sst_word _ _ _ _ _ h1
 have g1' := ik_word _ _ _ _ _ h1
 have gb : l2.length ≤ l1.length ∧ i2 = i1 := by
  split at h3
  ·
   have := shr_list shr_nm _ _ _ _ _ h3
   have := ik_list ik_nm _ _ _ _ _ h3
   have := drop_le l1
   exact ⟨by omega, by omega⟩
  · cases h3; exact ⟨Nat.le_refl _, rfl⟩
 have g3 := shr_want _ _ _ _ _ _ h5
 have g3' := ik_want _ _ _ _ _ _ h5
 obtain ⟨g4, g5, g6⟩ := hB _ _ _ _ _ h7
 have g7 := shr_want _ _ _ _ _ _ h9
 have g7' := ik_want _ _ _ _ _ _ h9
 have := drop_le l
 exact ⟨by omega, by omega, by omega⟩
theorem compC_gr : ∀ d, GrS (compC e d)
 | 0 => fun _ _ _ _ _ h => by cases h
 | d + 1 => comp_gr (fun l i x l' i' h => by rw [progD_eq] at h; exact progL_gr (compC_gr d) _ _ _ _ _ _ _ h)
end
end Go.Proofs.YtdjehbdpcdikkaaGreatDoor
