/- What a relation holds. put. Tuples put in one behind the other. put: a tuple that is new. -/
import Derived.Test.YthcljhfankooaabGreatMKeys
import Derived.Test.YthcljhfankooaabGreatMNts
import Derived.Test.YthcljhfankooaabGreatMNews
import Derived.Test.YthcljhfankooaabGreatMLaw
namespace Go.Proofs.YthcljhfankooaabGreat
open Go.RowKit Go.Shelf

/-- A tuple with its height and rule. -/
abbrev Nrow := List Int × Int × Int
def nMap (ns : List Nrow) : List (List Int × Value) := ns.map fun p => (p.1, noteV p.2.1 p.2.2)
def nKeys (ns : List Nrow) : List (List Int) := ns.map (·.1)
/-- The note of a tuple; .. set. -/
def getN (t : List Int) : List Nrow → Option (Int × Int)
  | [] => none
  | p :: r => if t = p.1 then some p.2 else getN t r
def setN (t : List Int) (a k : Int) : List Nrow → List Nrow
  | [] => [(t, a, k)]
  | p :: r => if t = p.1 then (p.1, a, k) :: r else p :: setN t a k r
theorem getN_none {t : List Int} : ∀ {ns : List Nrow}, getN t ns = none ↔ t ∉ nKeys ns
  | [] => by simp [getN, nKeys]
  | p :: r => by
    have ih := getN_none (t := t) (ns := r)
    unfold getN
    by_cases h : t = p.1
    · simp [h, nKeys]
    · simp only [h, if_false, ih, nKeys, List.map_cons, List.mem_cons, false_or]
theorem setN_none {t : List Int} {a k : Int} : ∀ {ns : List Nrow}, getN t ns = none → setN t a k ns = ns ++ [(t, a, k)]
  | [], _ => rfl
  | p :: r, h => by
    unfold getN at h
    by_cases hp : t = p.1
    · simp [hp] at h
    · simp only [hp, if_false] at h
      simp only [setN, hp, if_false, setN_none h, List.cons_append]
theorem setN_keys {t : List Int} {a k : Int} : ∀ {ns : List Nrow} {q : Int × Int}, getN t ns = some q → nKeys (setN t a k ns) = nKeys ns
  | [], _, h => by simp [getN] at h
  | p :: r, q, h => by
    unfold getN at h
    by_cases hp : t = p.1
    · simp [setN, hp, nKeys]
    · simp only [hp, if_false] at h
      have ih := setN_keys (a := a) (k := k) h
      simp only [nKeys] at ih
      simp only [setN, hp, if_false, nKeys, List.map_cons, ih]
theorem setN_mem {t : List Int} {a k : Int} : ∀ {ns : List Nrow} {p : Nrow}, p ∈ setN t a k ns → p = (t, a, k) ∨ p ∈ ns
  | [], p, h => by simpa [setN] using h
  | q :: r, p, h => by
    unfold setN at h
    by_cases hq : t = q.1
    · simp only [hq, if_true, List.mem_cons] at h
      rcases h with h | h
      · exact .inl (by rw [h, hq])
      · exact .inr (by simp [h])
    · simp only [hq, if_false, List.mem_cons] at h
      rcases h with h | h
      · exact .inr (by simp [h])
      · rcases setN_mem h with h | h
        · exact .inl h
        · exact .inr (by simp [h])
theorem k8_iff {n : Nat} {t u : List Int} (hn : n ≤ 8) (ht : t.length = n) (hu : u.length = n) : k8 t = k8 u ↔ t = u := ⟨k8_inj hn ht hu, fun h => by rw [h]⟩
theorem findK_map {n : Nat} (hn : n ≤ 8) {t : List Int} (ht : t.length = n) : ∀ (ns : List Nrow) (i : Nat), (∀ p ∈ ns, p.1.length = n) → (findK t (nMap ns) i).map (·.2) = (getN t ns).map (fun q => noteV q.1 q.2)
  | [], _, _ => rfl
  | p :: r, i, h => by
    have ih := findK_map hn ht r (i + 1) (fun q hq => h q (by simp [hq]))
    simp only [nMap, List.map_cons, findK, getN, k8_iff hn ht (h p (by simp))]
    simp only [nMap] at ih
    split
    · rfl
    · exact ih
theorem setK_map {n : Nat} (hn : n ≤ 8) {t : List Int} (ht : t.length = n) (a k : Int) : ∀ (ns : List Nrow), (∀ p ∈ ns, p.1.length = n) → setK t (noteV a k) (nMap ns) = nMap (setN t a k ns)
  | [], _ => rfl
  | p :: r, h => by
    have ih := setK_map hn ht a k r (fun q hq => h q (by simp [hq]))
    simp only [nMap] at ih
    simp only [nMap, List.map_cons, setK, setN, k8_iff hn ht (h p (by simp))]
    split
    · rfl
    · simp only [List.map_cons, ih]

/-- The blocks that a relation writes. -/
def Dk (hb mb : Nat) (sh : List (Nat × Nat)) : List Nat := hb :: mb :: sh.map (·.2)
/-- Blocks that a relation keeps off besides. -/
class Xt where
  x : Nat → Prop
instance (priority := low) xt0 : Xt := ⟨fun _ => False⟩
def Fre [Xt] (hb mb : Nat) (sh : List (Nat × Nat)) (b : Nat) : Prop := b ∉ Dk hb mb sh ∧ ¬ Xt.x b
structure HAt [Xt] (w : World) (hb mb : Nat) (sh : List (Nat × Nat)) (wd : Nat) (os : List (List Int)) (ns : List Nrow) : Prop where
  nd : (Dk hb mb sh).Nodup
  wd8 : wd ≤ 8
  len : sh.length = os.length
  pos : 0 < os.length
  ok : ∀ o ∈ os, right o = true ∧ o.length = wd
  mem : ∃ ov sv, w.heap[hb]? = some (.cells #[.int .i64 wd, ov, sv, .map (some mb)] 63 (0, 0)) ∧ ListAt (Fre hb mb sh) w ov os ∧ Row (Fre hb mb sh) w sv os.length (fun j => .pointer (some ⟨(sh.getD j (0, 0)).1, 0, none⟩))
  sets : ∀ j, j < os.length → ∃ xs, SetT (Fre hb mb sh) w (sh.getD j (0, 0)).1 (sh.getD j (0, 0)).2 (os.getD j []) xs ∧ (∀ x, x ∈ xs ↔ x ∈ nKeys ns) ∧ xs.length = ns.length
  map : MapK w mb (nMap ns)
  keys : (nKeys ns).Nodup ∧ ∀ p ∈ ns, p.1.length = wd ∧ Bnd p.1 ∧ inN p.2.1 = true ∧ inN p.2.2 = true
  ext : ∀ b, Xt.x b → b < w.heap.size
section
variable {w w' : World} {hb mb wd : Nat} {sh : List (Nat × Nat)} {os : List (List Int)} {ns : List Nrow}
theorem HAt.lt [Xt] (h : HAt w hb mb sh wd os ns) : ∀ b ∈ Dk hb mb sh, b < w.heap.size := fun b hb' => by
  rcases List.mem_cons.1 hb' with e | hb'
  · obtain ⟨ov, sv, h1, _⟩ := h.mem
    rw [e]; exact lt_heap h1
  · rcases List.mem_cons.1 hb' with e | hb'
    · obtain ⟨es, c, h1, _⟩ := h.map
      rw [e]; exact lt_heap h1
    · obtain ⟨p, hp, rfl⟩ := List.mem_map.1 hb'
      obtain ⟨j, hj, rfl⟩ := List.getElem_of_mem hp
      obtain ⟨xs, h1, _⟩ := h.sets j (by rw [← h.len]; exact hj)
      have := h1.lt
      rw [List.getD_eq_getElem?_getD, List.getElem?_eq_getElem hj] at this
      exact this
theorem HAt.new [Xt] (h : HAt w hb mb sh wd os ns) : NewIn (Fre hb mb sh) w := fun b hb' => ⟨fun hn => by have := h.lt b hn; omega, fun hx => by have := h.ext b hx; omega⟩
theorem MapK.block {ms : List (List Int × Value)} (h : MapK w mb ms) (e : w'.heap[mb]? = w.heap[mb]?) : MapK w' mb ms := by
  obtain ⟨es, c, h1, h2⟩ := h
  exact ⟨es, c, e.trans h1, h2⟩
theorem HAt.later [Xt] (h : HAt w hb mb sh wd os ns) (hb' : Below w.heap.size w w') : HAt w' hb mb sh wd os ns where
  nd := h.nd
  wd8 := h.wd8
  len := h.len
  pos := h.pos
  ok := h.ok
  mem := by
    obtain ⟨ov, sv, h1, h2, h3⟩ := h.mem
    exact ⟨ov, sv, (hb'.block _ (lt_heap h1)).trans h1, h2.later hb', h3.later hb'⟩
  sets := fun j hj => by
    obtain ⟨xs, h1, h2⟩ := h.sets j hj
    exact ⟨xs, h1.later hb', h2⟩
  map := h.map.block (hb'.block _ (h.lt mb (by simp [Dk])))
  keys := h.keys
  ext := fun b hx => Nat.lt_of_lt_of_le (h.ext b hx) hb'.size
theorem HAt.hbmb [Xt] (h : HAt w hb mb sh wd os ns) : hb ≠ mb := by
  have := h.nd
  simp only [Dk, List.nodup_cons, List.mem_cons, not_or] at this
  exact this.1.1
/-- A note is turned. -/
theorem HAt.note [Xt] (h : HAt w hb mb sh wd os ns) {t : List Int} {a k : Int} {q : Int × Int} (hq : getN t ns = some q) (ht : t.length = wd) (hB : Bnd t) (ha : inN a = true) (hk : inN k = true) (hK : Keeps (fun b => b = mb) w w') (hm : MapK w' mb (setK t (noteV a k) (nMap ns))) : HAt w' hb mb sh wd os (setN t a k ns) where
  nd := h.nd
  wd8 := h.wd8
  len := h.len
  pos := h.pos
  ok := h.ok
  mem := by
    obtain ⟨ov, sv, h1, h2, h3⟩ := h.mem
    have hs : Stays (Fre hb mb sh) w w' := hK.stays (fun b _ hs e => hs.1 (by rw [e]; simp [Dk]))
    exact ⟨ov, sv, hK.same _ _ h1 h.hbmb, h2.stays hs, h3.stays hs⟩
  sets := fun j hj => by
    obtain ⟨xs, h1, h2, h3⟩ := h.sets j hj
    have hjs : j < sh.length := by rw [h.len]; exact hj
    have hin : (sh.getD j (0, 0)).2 ∈ sh.map (·.2) := by
      rw [List.getD_eq_getElem?_getD, List.getElem?_eq_getElem hjs]
      exact List.mem_map.2 ⟨_, List.getElem_mem hjs, rfl⟩
    have hne : (sh.getD j (0, 0)).2 ≠ mb := fun e => by
      have := h.nd
      simp only [Dk, List.nodup_cons] at this
      exact this.2.1 (e ▸ hin)
    refine ⟨xs, h1.keeps hK hne (fun hs => hs.1 (by simp [Dk])), ?_, ?_⟩
    · rw [setN_keys hq]; exact h2
    · rw [h3]
      have := congrArg List.length (setN_keys (a := a) (k := k) hq)
      simpa [nKeys] using this.symm
  map := by rw [← setK_map h.wd8 ht a k ns (fun p hp => (h.keys.2 p hp).1)]; exact hm
  keys := by
    refine ⟨by rw [setN_keys hq]; exact h.keys.1, fun p hp => ?_⟩
    rcases setN_mem hp with e | e
    · rw [e]; exact ⟨ht, hB, ha, hk⟩
    · exact h.keys.2 p e
  ext := fun b hx => Nat.lt_of_lt_of_le (h.ext b hx) hK.size
end
end Go.Proofs.YthcljhfankooaabGreat

namespace Go.Proofs.YthcljhfankooaabGreat
open Go.RowKit Go.Shelf

/-- What put answers, and leaves. -/
def putB (t : List Int) (ns : List Nrow) : Bool := (getN t ns).isNone && decide (ns.length < 1024)
def putE (t : List Int) (ns : List Nrow) : Int := if (getN t ns).isSome = true then 0 else if ns.length < 1024 then 0 else 18
def putTo (t : List Int) (a k : Int) (ns : List Nrow) : List Nrow := match getN t ns with
  | some q => if betB a k q.1 q.2 = true then setN t a k ns else ns
  | none => if ns.length < 1024 then ns ++ [(t, a, k)] else ns
theorem better_N (a k c d : Int) (ha : inN a = true) (hk : inN k = true) (hc : inN c = true) (hd : inN d = true) (w : World) : Calls Tryz.prog 47 #[noteV a k, noteV c d] w fun e w' => e = .returned (.bool (betB a k c d)) ∧ w' = w :=
  better_any a k c d _ _ _ _ (isI_of_int a (inN_abs ha)) (isI_of_int k (inN_abs hk)) (isI_of_int c (inN_abs hc)) (isI_of_int d (inN_abs hd)) w
theorem HAt.look [Xt] {w : World} {hb mb wd : Nat} {sh : List (Nat × Nat)} {os : List (List Int)} {ns : List Nrow} (h : HAt w hb mb sh wd os ns) {t : List Int} (ht : t.length = wd) : lookB t (nMap ns) = (getN t ns).isSome ∧ lookV t (nMap ns) = (match getN t ns with | some q => noteV q.1 q.2 | none => .complex .f64 0 0) := by
  have hf := findK_map h.wd8 ht ns 0 (fun p hp => (h.keys.2 p hp).1)
  unfold lookB lookV
  cases h1 : findK t (nMap ns) 0 with
  | none =>
    rw [h1] at hf
    cases h2 : getN t ns with
    | none => exact ⟨rfl, rfl⟩
    | some q => rw [h2] at hf; cases hf
  | some p =>
    rw [h1] at hf
    cases h2 : getN t ns with
    | none => rw [h2] at hf; cases hf
    | some q =>
      rw [h2] at hf
      exact ⟨rfl, Option.some.inj hf⟩
theorem getN_mem {t : List Int} : ∀ {ns : List Nrow} {q : Int × Int}, getN t ns = some q → (t, q) ∈ ns
  | [], _, h => by cases h
  | p :: r, q, h => by
    unfold getN at h
    by_cases hp : t = p.1
    · simp only [hp, if_true, Option.some.injEq] at h
      rw [hp, ← h]; simp
    · simp only [hp, if_false] at h
      exact List.mem_cons_of_mem _ (getN_mem h)

set_option maxRecDepth 100000 in
set_option maxHeartbeats 4000000 in
theorem hput_old [Xt] (w : World) (hb mb wd : Nat) (sh : List (Nat × Nat)) (os : List (List Int)) (ns : List Nrow) (h : HAt w hb mb sh wd os ns) (t : List Int) (tv : Value) (ht : Ints w.heap.size w tv t) (hl : t.length = wd) (hB : Bnd t) (a k : Int) (ha : inN a = true) (hk : inN k = true) (q : Int × Int) (hq : getN t ns = some q) :
    Calls Tryz.prog 27 #[.pointer (some ⟨hb, 0, none⟩), noteV a k, tv] w fun e w' => e = .returned (.tuple #[.bool false, .int .i64 0]) ∧ HAt w' hb mb sh wd os (if betB a k q.1 q.2 = true then setN t a k ns else ns) ∧ Keeps (fun b => b = mb) w w' := by
  have mixed : Tryz.prog.follows .mixedOrders = true := by kernel_rfl
  obtain ⟨c, d⟩ := q
  have hcd := h.keys.2 _ (getN_mem hq)
  have hbt := better_N a k c d ha hk hcd.2.2.1 hcd.2.2.2
  have KEY : Hid (∀ v, Below w.heap.size w v → Calls Tryz.prog 33 #[tv] v fun e w' => e = .returned (keyV t) ∧ Below w.heap.size w w') := fun v hv => (keyOf_any v tv t ((ht.below hv (Nat.le_refl _)).mono hv.size) (by rw [hl]; exact h.wd8)).mono fun e w' hh => ⟨hh.1, hv.trans (hh.2.mono hv.size)⟩
  obtain ⟨ov, sv, hh, _⟩ := h.mem
  have hlt := lt_heap hh
  have hc3 : w.cell? ⟨hb, 3, none⟩ = some (.map (some mb)) := by rw [cell_at hh]; rfl
  obtain ⟨hl1, hl2⟩ := h.look hl
  rw [hq] at hl1 hl2
  have CELL : Hid (∀ v, Below w.heap.size w v → v.cell? ⟨hb, 3, none⟩ = some (.map (some mb)) ∧ (Instr.lookup 60 (.map (some mb)) (keyV t) true).run Tryz.prog v = .ok (.tuple #[noteV c d, .bool true]) v) := fun v hv => ⟨(hv.cell (p := ⟨hb, 3, none⟩) hlt).trans hc3, by
    have := look_K v mb (nMap ns) t (h.later hv).map true
    rw [hl1, hl2] at this
    exact this⟩
  have HH := hide (And.intro h (And.intro ha hk))
  obtain ⟨ta, tc, rfl, _⟩ := id ht
  have HT := hide (And.intro ht (And.intro hl (And.intro hB hq)))
  clear h ht hl hB ha hk hq hcd hh hlt hc3 hl1 hl2
  cases hbb : betB a k c d with
  | false =>
    rw [hbb] at hbt
    clear hbb
    go_enter Tryz.func27, Tryz.ntmps27
    go_wp2_with fail
    refine region_mixN (md := [(0, true), (1, true), (2, true), (3, true), (4, true), (5, false), (6, true), (7, true), (8, true), (9, true), (10, true), (11, true)]) (fun w' => Below w.heap.size w w') mixed (by kernel_rfl) rfl (by kernel_rfl) (fun PP hPP => ?_)
    iterate 5 (refine wpMix_take (v := ?_) rfl (by kernel_rfl) (fun w' hw => ?_) ?_; rotate_left; · (obtain ⟨q1, q2⟩ := unhide CELL w' hw; go_simp; try with_reducible rfl))
    refine wpMix_force rfl ((Below.refl _ w).drew) (fun K hK => ?_)
    go_simp
    refine (unhide KEY _ ((Below.refl _ w).drew)).mono ?_
    rintro e w1 ⟨rfl, b1⟩
    have B1 := hide b1
    clear b1
    go_wp2_with fail
    iterate 6 (refine wpMix_take (v := ?_) rfl (by kernel_rfl) (fun w' hw => ?_) ?_; rotate_left; · (obtain ⟨q1, q2⟩ := unhide CELL w' hw; go_simp; try with_reducible rfl))
    refine wpMix_nil (unhide B1) (hPP _ _ ?_)
    clear hPP
    go_wp2_with fail
    refine (hbt _).mono ?_
    clear hbt
    rintro e w2 ⟨rfl, hw2⟩
    subst hw2
    go_wp2_with fail
    go_ret2
    exact ⟨rfl, (unhide HH).1.later (unhide B1), Keeps.of_below (unhide B1)⟩
  | true =>
    rw [hbb] at hbt
    clear hbb
    go_enter Tryz.func27, Tryz.ntmps27
    go_wp2_with fail
    refine region_mixN (md := [(0, true), (1, true), (2, true), (3, true), (4, true), (5, false), (6, true), (7, true), (8, true), (9, true), (10, true), (11, true)]) (fun w' => Below w.heap.size w w') mixed (by kernel_rfl) rfl (by kernel_rfl) (fun PP hPP => ?_)
    iterate 5 (refine wpMix_take (v := ?_) rfl (by kernel_rfl) (fun w' hw => ?_) ?_; rotate_left; · (obtain ⟨q1, q2⟩ := unhide CELL w' hw; go_simp; try with_reducible rfl))
    refine wpMix_force rfl ((Below.refl _ w).drew) (fun K hK => ?_)
    go_simp
    refine (unhide KEY _ ((Below.refl _ w).drew)).mono ?_
    rintro e w1 ⟨rfl, b1⟩
    have B1 := hide b1
    clear b1
    go_wp2_with fail
    iterate 6 (refine wpMix_take (v := ?_) rfl (by kernel_rfl) (fun w' hw => ?_) ?_; rotate_left; · (obtain ⟨q1, q2⟩ := unhide CELL w' hw; go_simp; try with_reducible rfl))
    refine wpMix_nil (unhide B1) (hPP _ _ ?_)
    clear hPP
    go_wp2_with fail
    refine (hbt _).mono ?_
    clear hbt
    rintro e w2 ⟨rfl, hw2⟩
    subst hw2
    have hcw : w2.cell? ⟨hb, 3, none⟩ = some (.map (some mb)) := (unhide CELL w2 (unhide B1)).1
    go_wp2_with fail
    refine region_mixN (md := [(0, true), (1, true), (2, true), (3, true), (4, true), (6, true), (5, false), (7, false)]) (fun w' => w'.cell? ⟨hb, 3, none⟩ = some (.map (some mb))) mixed (by kernel_rfl) rfl (by kernel_rfl) (fun PP hPP => ?_)
    iterate 6 (refine wpMix_take (v := ?_) rfl (by kernel_rfl) (fun w' hw => ?_) ?_; rotate_left; · (go_simp; try with_reducible rfl))
    refine wpMix_force rfl hcw (fun K hK => ?_)
    go_simp
    refine (unhide KEY _ ((unhide B1).drew)).mono ?_
    rintro e w3 ⟨rfl, b3⟩
    obtain ⟨w4, hr, hm4, k4⟩ := set_K w3 mb (nMap ns) t (noteV a k) ((unhide HH).1.later b3).map
    have hc4 : w4.cell? ⟨hb, 3, none⟩ = some (.map (some mb)) := k4.cell (unhide CELL w3 b3).1 (unhide HH).1.hbmb
    have H4 := hide (And.intro b3 (And.intro hm4 k4))
    have hc3 := (unhide CELL w3 b3).1
    clear hm4 k4 b3
    go_wp2_with fail
    refine wpMix_force rfl hc3 (fun K hK => ?_)
    go_simp
    refine hK _ _ ?_
    clear hK K
    refine wpMix_nil hc4 (hPP _ _ ?_)
    clear hPP
    go_wp2_with fail
    go_ret2
    obtain ⟨b3, hm4, k4⟩ := unhide H4
    obtain ⟨h, ha, hk⟩ := unhide HH
    obtain ⟨ht, hl, hB, hq⟩ := unhide HT
    exact ⟨rfl, (h.later b3).note hq hl hB ha hk k4 hm4, (Keeps.of_below b3 (O := fun b => b = mb)).trans k4 (fun _ _ e => e)⟩
end Go.Proofs.YthcljhfankooaabGreat

namespace Go.Proofs.YthcljhfankooaabGreat
open Go.RowKit

def insAll (o : List Int) (s l : List (List Int)) : List (List Int) := l.foldl (fun s x => insTo o x s) s
theorem insAll_snoc (o : List Int) (s l : List (List Int)) (x : List Int) : insAll o s (l ++ [x]) = insTo o x (insAll o s l) := by simp [insAll, List.foldl_append]
theorem insX_mem {o x y : List Int} {xs : List (List Int)} : y ∈ insX o x xs ↔ y = x ∨ y ∈ xs := by
  unfold insX
  have h := List.takeWhile_append_dropWhile (p := fun y => decide (cmpA o y x < 0)) (l := xs)
  generalize xs.takeWhile (fun y => decide (cmpA o y x < 0)) = A at h ⊢
  generalize xs.dropWhile (fun y => decide (cmpA o y x < 0)) = B at h ⊢
  rw [← h]
  simp only [List.mem_append, List.mem_cons]
  constructor
  · rintro (h | h | h)
    · exact .inr (.inl h)
    · exact .inl h
    · exact .inr (.inr h)
  · rintro (h | h | h)
    · exact .inr (.inl h)
    · exact .inl h
    · exact .inr (.inr h)
theorem insX_length {o x : List Int} {xs : List (List Int)} : (insX o x xs).length = xs.length + 1 := by
  unfold insX
  have h := congrArg List.length (List.takeWhile_append_dropWhile (p := fun y => decide (cmpA o y x < 0)) (l := xs))
  rw [List.length_append] at h
  rw [List.length_append, List.length_cons]
  omega
theorem insTo_mem {o x y : List Int} {xs : List (List Int)} (h : xs.length < 1024) : y ∈ insTo o x xs ↔ (y ∈ xs ∨ (y = x ∧ y.length = o.length)) := by
  unfold insTo insBL
  by_cases hf : fitB o x = true
  · have hf2 := fitB_true.1 hf
    by_cases hc : x ∈ xs
    · rw [if_neg (by simp [hf, hc])]
      constructor
      · exact .inl
      · rintro (h | ⟨rfl, _⟩)
        · exact h
        · exact hc
    · rw [if_pos (by simp [hf, h, hc]), insX_mem]
      constructor
      · rintro (rfl | h)
        · exact .inr ⟨rfl, hf2⟩
        · exact .inl h
      · rintro (h | ⟨h, _⟩)
        · exact .inr h
        · exact .inl h
  · rw [if_neg (by simp [hf])]
    constructor
    · exact .inl
    · rintro (h | ⟨rfl, h2⟩)
      · exact h
      · exact absurd (fitB_true.2 h2) hf
theorem insTo_length {o x : List Int} {xs : List (List Int)} : (insTo o x xs).length ≤ xs.length + 1 := by
  unfold insTo
  split
  · rw [insX_length]; omega
  · omega
theorem insAll_mem (o : List Int) : ∀ (l s : List (List Int)) (y : List Int), s.length + l.length ≤ 1024 → (y ∈ insAll o s l ↔ (y ∈ s ∨ (y ∈ l ∧ y.length = o.length)))
  | [], s, y, _ => by simp [insAll]
  | x :: r, s, y, h => by
    rw [List.length_cons] at h
    have h1 : insAll o s (x :: r) = insAll o (insTo o x s) r := rfl
    have h2 := insTo_length (o := o) (x := x) (xs := s)
    rw [h1, insAll_mem o r (insTo o x s) y (by omega), insTo_mem (by omega), List.mem_cons]
    constructor
    · rintro ((h | ⟨h, h3⟩) | ⟨h, h3⟩)
      · exact .inl h
      · exact .inr ⟨.inl h, h3⟩
      · exact .inr ⟨.inr h, h3⟩
    · rintro (h | ⟨h | h, h3⟩)
      · exact .inl (.inl h)
      · exact .inl (.inr ⟨h, h3⟩)
      · exact .inr ⟨h, h3⟩
theorem up_same {o : List Int} {xs ys : List (List Int)} (ho : right o = true) (hx : Up o xs) (hy : Up o ys) (h : ∀ y, y ∈ xs ↔ y ∈ ys) : xs = ys := by
  have mk : ∀ zs : List (List Int), Up o zs → Rises o (zs.map fun z => (undef, z)) := fun zs hz => by
    refine ⟨?_, fun a ha => ?_⟩
    · rw [List.pairwise_map]; exact hz.1
    · obtain ⟨z, hz2, rfl⟩ := List.mem_map.1 ha
      exact hz.2.1 z hz2
  have hm : ∀ zs : List (List Int), (zs.map fun z => ((undef, z) : Item)).map (·.2) = zs := fun zs => by
    induction zs with
    | nil => rfl
    | cons z r ih => rw [List.map_cons, List.map_cons, ih]
  have := rises_same ho _ _ (mk xs hx) (mk ys hy) (fun x => by
    rw [hasI_map, hasI_map, hm, hm, Bool.eq_iff_iff, List.contains_iff_mem, List.contains_iff_mem]
    exact h x)
  rw [hm, hm] at this
  exact this

/-- The list from behind, begun elsewhere. -/
def backBy (xs : List (List Int)) (b : Nat) (k : Nat) : List (List Int) := (List.range k).map fun j => xs.getD (xs.length - 1 - (j + b) % xs.length) []
theorem backBy_succ (xs : List (List Int)) (b k : Nat) : backBy xs b (k + 1) = backBy xs b k ++ [xs.getD (xs.length - 1 - (k + b) % xs.length) []] := by simp [backBy, List.range_succ]
theorem backBy_mem {xs : List (List Int)} {b : Nat} (hb : b < xs.length) (y : List Int) : y ∈ backBy xs b xs.length ↔ y ∈ xs := by
  have get : ∀ i, i < xs.length → xs.getD i [] ∈ xs := fun i hi => by
    rw [List.getD, List.getElem?_eq_getElem hi]
    exact List.getElem_mem hi
  constructor
  · intro h
    obtain ⟨j, hj, rfl⟩ := List.mem_map.1 h
    exact get _ (by omega)
  · intro h
    obtain ⟨i, hi, rfl⟩ := List.getElem_of_mem h
    refine List.mem_map.2 ?_
    have key : ∃ j, j < xs.length ∧ (j + b) % xs.length = xs.length - 1 - i := by
      by_cases ht : b ≤ xs.length - 1 - i
      · exact ⟨xs.length - 1 - i - b, by omega, by rw [Nat.sub_add_cancel ht, Nat.mod_eq_of_lt (by omega)]⟩
      · refine ⟨xs.length - 1 - i + xs.length - b, by omega, ?_⟩
        rw [Nat.sub_add_cancel (by omega), Nat.add_mod_right, Nat.mod_eq_of_lt (by omega)]
    obtain ⟨j, hj, e⟩ := key
    refine ⟨j, List.mem_range.2 hj, ?_⟩
    rw [e, show xs.length - 1 - (xs.length - 1 - i) = i by omega, List.getD, List.getElem?_eq_getElem hi]
    rfl
theorem insAll_back {o : List Int} {xs : List (List Int)} {b : Nat} (ho : right o = true) (hb : b < xs.length) (hl : xs.length ≤ 1024) (h1 : Up o (insAll o [] xs)) (h2 : Up o (insAll o [] (backBy xs b xs.length))) : insAll o [] xs = insAll o [] (backBy xs b xs.length) :=
  up_same ho h1 h2 (fun y => by
    rw [insAll_mem o _ _ _ (by simpa using hl), insAll_mem o _ _ _ (by simpa [backBy] using hl), backBy_mem hb])
end Go.Proofs.YthcljhfankooaabGreat

namespace Go.Proofs.YthcljhfankooaabGreat
open Go.RowKit Go.Shelf

section
variable {hb mb wd : Nat} {sh : List (Nat × Nat)} {os : List (List Int)} {ns : List Nrow}
/-- On the way: the first j sets have it. -/
def PutR [Xt] (w : World) (hb mb : Nat) (sh : List (Nat × Nat)) (os : List (List Int)) (ns : List Nrow) (t : List Int) (i : Value) (wr : World) : Prop := ∃ j : Nat, j ≤ os.length ∧ i = .int .i64 (j : Int) ∧ Keeps (fun b => b ∈ sh.map (·.2)) w wr ∧
  ∀ n, n < os.length → ∃ xs, SetT (Fre hb mb sh) wr (sh.getD n (0, 0)).1 (sh.getD n (0, 0)).2 (os.getD n []) xs ∧ (∀ x, x ∈ xs ↔ ((n < j ∧ x = t) ∨ x ∈ nKeys ns)) ∧ xs.length = ns.length + (if n < j then 1 else 0)
theorem row_at {S : Nat → Prop} {w : World} {v : Value} {n : Nat} {f : Nat → Value} (h : Row S w v n f) {k : Nat} (hk : k < n) : ∃ b off cap, v = .slice (some ⟨b, off, none⟩) n cap ∧ w.cell? ⟨b, off + k, none⟩ = some (f k) := by
  obtain ⟨a, cap, rfl, _, _, h4⟩ := h
  obtain ⟨b, off, rfl, _, hc⟩ := h4 k hk
  exact ⟨b, off, cap, rfl, hc⟩
theorem row_in {S : Nat → Prop} {w : World} {a : Option Addr} {n m cap : Nat} {f : Nat → Value} (h : Row S w (.slice a m cap) n f) {k : Nat} (hk : k < n) : ∃ b off, a = some ⟨b, off, none⟩ ∧ w.cell? ⟨b, off + k, none⟩ = some (f k) := by
  obtain ⟨b, off, cp, e, hc⟩ := row_at h hk
  simp only [Value.slice.injEq] at e
  exact ⟨b, off, e.1, hc⟩
theorem sh_in (hlen : sh.length = os.length) {n : Nat} (hn : n < os.length) : (sh.getD n (0, 0)).2 ∈ sh.map (·.2) := by
  have hns : n < sh.length := by omega
  rw [List.getD_eq_getElem?_getD, List.getElem?_eq_getElem hns]
  exact List.mem_map.2 ⟨_, List.getElem_mem hns, rfl⟩
theorem HAt.apart [Xt] {w : World} (h : HAt w hb mb sh wd os ns) {i j : Nat} (hi : i < os.length) (hj : j < os.length) (hij : i ≠ j) : (sh.getD i (0, 0)).2 ≠ (sh.getD j (0, 0)).2 := fun e => by
  have h1 := h.nd
  simp only [Dk, List.nodup_cons] at h1
  have h2 := h1.2.2
  have his : i < sh.length := by rw [h.len]; exact hi
  have hjs : j < sh.length := by rw [h.len]; exact hj
  rw [List.getD_eq_getElem?_getD, List.getElem?_eq_getElem his, List.getD_eq_getElem?_getD, List.getElem?_eq_getElem hjs] at e
  exact hij ((List.getElem_inj (xs := sh.map (·.2)) (h₀ := by simpa using his) (h₁ := by simpa using hjs) h2).1 (by simpa using e))
theorem fre_sh [Xt] {b : Nat} (hs : Fre hb mb sh b) : ¬ b ∈ sh.map (·.2) := fun e => hs.1 (by simp only [Dk, List.mem_cons]; exact .inr (.inr e))
/-- It has come. -/
theorem HAt.came [Xt] {w w1 w2 : World} (h : HAt w hb mb sh wd os ns) {t : List Int} {a k : Int} (hq : getN t ns = none) (ht : t.length = wd) (hB : Bnd t) (ha : inN a = true) (hk : inN k = true) (k1 : Keeps (fun b => b ∈ sh.map (·.2)) w w1)
    (hs : ∀ n, n < os.length → ∃ xs, SetT (Fre hb mb sh) w1 (sh.getD n (0, 0)).1 (sh.getD n (0, 0)).2 (os.getD n []) xs ∧ (∀ x, x ∈ xs ↔ ((n < os.length ∧ x = t) ∨ x ∈ nKeys ns)) ∧ xs.length = ns.length + (if n < os.length then 1 else 0))
    (k2 : Keeps (fun b => b = mb) w1 w2) (hm : MapK w2 mb (setK t (noteV a k) (nMap ns))) : HAt w2 hb mb sh wd os (ns ++ [(t, a, k)]) where
  nd := h.nd
  wd8 := h.wd8
  len := h.len
  pos := h.pos
  ok := h.ok
  mem := by
    obtain ⟨ov, sv, h1, h2, h3⟩ := h.mem
    have hsh : hb ∉ sh.map (·.2) := by
      have := h.nd
      simp only [Dk, List.nodup_cons, List.mem_cons, not_or] at this
      exact this.1.2
    have s1 : Stays (Fre hb mb sh) w w1 := k1.stays (fun b _ hs => fre_sh hs)
    have s2 : Stays (Fre hb mb sh) w1 w2 := k2.stays (fun b _ hs e => hs.1 (by rw [e]; simp [Dk]))
    exact ⟨ov, sv, k2.same _ _ (k1.same _ _ h1 hsh) h.hbmb, (h2.stays s1).stays s2, (h3.stays s1).stays s2⟩
  sets := fun j hj => by
    obtain ⟨xs, h1, h2, h3⟩ := hs j hj
    have hne : (sh.getD j (0, 0)).2 ≠ mb := fun e => by
      have := h.nd
      simp only [Dk, List.nodup_cons] at this
      exact this.2.1 (e ▸ sh_in h.len hj)
    refine ⟨xs, h1.keeps k2 hne (fun hs => hs.1 (by simp [Dk])), fun x => ?_, ?_⟩
    · rw [h2]
      simp only [hj, true_and, nKeys, List.map_append, List.map_cons, List.map_nil, List.mem_append, List.mem_singleton]
      exact Or.comm
    · rw [h3, if_pos hj]; simp
  map := by
    rw [← setN_none hq, ← setK_map h.wd8 ht a k ns (fun p hp => (h.keys.2 p hp).1)]; exact hm
  keys := by
    refine ⟨?_, fun p hp => ?_⟩
    · simp only [nKeys, List.map_append, List.map_cons, List.map_nil]
      rw [List.nodup_append]
      refine ⟨h.keys.1, by simp, fun x hx y hy => ?_⟩
      rw [List.mem_singleton] at hy
      rw [hy]
      rintro rfl
      exact getN_none.1 hq hx
    · rcases List.mem_append.1 hp with e | e
      · exact h.keys.2 p e
      · rw [List.mem_singleton] at e
        rw [e]; exact ⟨ht, hB, ha, hk⟩
  ext := fun b hx => Nat.lt_of_lt_of_le (h.ext b hx) (Nat.le_trans k1.size k2.size)
/-- One set more. -/
theorem HAt.step [Xt] {w wr wr' : World} (h : HAt w hb mb sh wd os ns) {t : List Int} {j : Nat} (hj : j < os.length) {xs : List (List Int)} (k1 : Keeps (fun b => b ∈ sh.map (·.2)) w wr)
    (hs : ∀ n, n < os.length → ∃ xs, SetT (Fre hb mb sh) wr (sh.getD n (0, 0)).1 (sh.getD n (0, 0)).2 (os.getD n []) xs ∧ (∀ x, x ∈ xs ↔ ((n < j ∧ x = t) ∨ x ∈ nKeys ns)) ∧ xs.length = ns.length + (if n < j then 1 else 0))
    (hx : ∀ x, x ∈ xs ↔ x ∈ nKeys ns) (hxl : xs.length = ns.length) (k2 : Keeps (fun b => b = (sh.getD j (0, 0)).2) wr wr') (hT : SetT (Fre hb mb sh) wr' (sh.getD j (0, 0)).1 (sh.getD j (0, 0)).2 (os.getD j []) (insX (os.getD j []) t xs)) :
    PutR w hb mb sh os ns t (.int .i64 ((j + 1 : Nat) : Int)) wr' := by
  refine ⟨j + 1, hj, rfl, k1.trans k2 (fun b _ e => by rw [e]; exact sh_in h.len hj), fun n hn => ?_⟩
  by_cases e : n = j
  · subst e
    refine ⟨_, hT, fun x => ?_, ?_⟩
    · rw [insX_mem, hx]
      constructor
      · rintro (h | h)
        · exact .inl ⟨by omega, h⟩
        · exact .inr h
      · rintro (h | h)
        · exact .inl h.2
        · exact .inr h
    · rw [insX_length, hxl, if_pos (by omega)]
  · obtain ⟨ys, h1, h2, h3⟩ := hs n hn
    refine ⟨ys, h1.keeps k2 (h.apart hn hj e) (fun hs => fre_sh hs (sh_in h.len hj)), fun x => ?_, ?_⟩
    · rw [h2]
      have : n < j + 1 ↔ n < j := by omega
      rw [this]
    · rw [h3]
      have : n < j + 1 ↔ n < j := by omega
      simp only [this]
end

set_option maxRecDepth 100000 in
set_option maxHeartbeats 4000000 in
theorem hput_new [Xt] (w : World) (hb mb wd : Nat) (sh : List (Nat × Nat)) (os : List (List Int)) (ns : List Nrow) (h : HAt w hb mb sh wd os ns) (t : List Int) (tv : Value) (ht : IntsS (fun b => b ∉ Dk hb mb sh) w tv t) (hl : t.length = wd) (hB : Bnd t) (a k : Int) (ha : inN a = true) (hk : inN k = true) (hq : getN t ns = none) (hroom : ns.length < 1024) :
    Calls Tryz.prog 27 #[.pointer (some ⟨hb, 0, none⟩), noteV a k, tv] w fun e w' => e = .returned (.tuple #[.bool true, .int .i64 0]) ∧ HAt w' hb mb sh wd os (ns ++ [(t, a, k)]) ∧ Keeps (fun b => b ∈ Dk hb mb sh) w w' := by
  have mixed : Tryz.prog.follows .mixedOrders = true := by kernel_rfl
  have KEYW : Hid (∀ v, Stays (fun b => b ∉ Dk hb mb sh) w v → Calls Tryz.prog 33 #[tv] v fun e w' => e = .returned (keyV t) ∧ Below v.heap.size v w') := fun v hv => keyOf_any v tv t (ht.stays hv).ints (by rw [hl]; exact h.wd8)
  have KEY : Hid (∀ v, Below w.heap.size w v → Calls Tryz.prog 33 #[tv] v fun e w' => e = .returned (keyV t) ∧ Below w.heap.size w w') := fun v hv => (unhide KEYW v (Stays.of_below hv)).mono fun e w' hh => ⟨hh.1, hv.trans (hh.2.mono hv.size)⟩
  obtain ⟨ov, sv, hh, hL, hR⟩ := h.mem
  obtain ⟨sa, sc, rfl, hs1, hs2, hs3⟩ := id hR
  have hlt := lt_heap hh
  have hc3 : w.cell? ⟨hb, 3, none⟩ = some (.map (some mb)) := by rw [cell_at hh]; rfl
  have hc2 : w.cell? ⟨hb, 2, none⟩ = some (.slice sa os.length sc) := by rw [cell_at hh]; rfl
  obtain ⟨hl1, hl2⟩ := h.look hl
  rw [hq] at hl1 hl2
  have CELL : Hid (∀ v, Below w.heap.size w v → v.cell? ⟨hb, 3, none⟩ = some (.map (some mb)) ∧ (Instr.lookup 60 (.map (some mb)) (keyV t) true).run Tryz.prog v = .ok (.tuple #[.complex .f64 0 0, .bool false]) v) := fun v hv => ⟨(hv.cell (p := ⟨hb, 3, none⟩) hlt).trans hc3, by
    have := look_K v mb (nMap ns) t (h.later hv).map true
    rw [hl1, hl2] at this
    exact this⟩
  have hno : ∀ n, n < os.length → fitB (os.getD n []) t = true := fun n hn => by
    rw [fitB_true, hl, List.getD_eq_getElem?_getD, List.getElem?_eq_getElem hn]
    exact (h.ok _ (List.getElem_mem hn)).2.symm
  have hsh : hb ∉ sh.map (·.2) ∧ mb ∉ sh.map (·.2) := by
    have := h.nd
    simp only [Dk, List.nodup_cons, List.mem_cons, not_or] at this
    exact ⟨this.1.2, this.2.1⟩
  have C2 : Hid (∀ v, Below w.heap.size w v → v.cell? ⟨hb, 2, none⟩ = some (.slice sa os.length sc)) := fun v hv => (hv.cell (p := ⟨hb, 2, none⟩) hlt).trans hc2
  have C3 : Hid (∀ v, Keeps (fun b => b ∈ sh.map (·.2)) w v → v.cell? ⟨hb, 3, none⟩ = some (.map (some mb)) ∧ MapK v mb (nMap ns)) := fun v hv => ⟨hv.cell hc3 hsh.1, h.map.block (by
    obtain ⟨es, c, e, _⟩ := h.map
    rw [e]; exact hv.same _ _ e hsh.2)⟩
  have STAY : Hid (∀ v, Keeps (fun b => b ∈ sh.map (·.2)) w v → Stays (fun b => b ∉ Dk hb mb sh) w v) := fun v hv => hv.stays (fun b _ hs e => hs (by simp only [Dk, List.mem_cons]; exact .inr (.inr e)))
  have HH := hide (And.intro h (And.intro ha (And.intro hk (And.intro hR (And.intro ht (And.intro hl (And.intro hB (And.intro hq (And.intro hroom hno)))))))))
  have hsl := h.pos
  obtain ⟨ta, tc, rfl, _⟩ := id ht
  clear h ht hl hB ha hk hq hh hlt hc3 hc2 hl1 hl2 hL hR hs3 hno hsh hroom
  go_enter Tryz.func27, Tryz.ntmps27
  go_wp2_with fail
  refine region_mixN (md := [(0, true), (1, true), (2, true), (3, true), (4, true), (5, false), (6, true), (7, true), (8, true), (9, true), (10, true), (11, true)]) (fun w' => Below w.heap.size w w') mixed (by kernel_rfl) rfl (by kernel_rfl) (fun PP hPP => ?_)
  iterate 5 (refine wpMix_take (v := ?_) rfl (by kernel_rfl) (fun w' hw => ?_) ?_; rotate_left; · (obtain ⟨q1, q2⟩ := unhide CELL w' hw; go_simp; try with_reducible rfl))
  refine wpMix_force rfl ((Below.refl _ w).drew) (fun K hK => ?_)
  go_simp
  refine (unhide KEY _ ((Below.refl _ w).drew)).mono ?_
  rintro e w1 ⟨rfl, b1⟩
  have B1 := hide b1
  clear b1
  go_wp2_with fail
  iterate 6 (refine wpMix_take (v := ?_) rfl (by kernel_rfl) (fun w' hw => ?_) ?_; rotate_left; · (obtain ⟨q1, q2⟩ := unhide CELL w' hw; go_simp; try with_reducible rfl))
  refine wpMix_nil (unhide B1) (hPP _ _ ?_)
  clear hPP
  have hcs := unhide C2 w1 (unhide B1)
  go_wp2_with fail
  go_loopw [40] (fun i wr => PutR w hb mb sh os ns t i wr) (fun i _ => os.length - (intOf i).toNat)
  case atStart =>
    obtain ⟨h, _⟩ := unhide HH
    refine ⟨0, Nat.zero_le _, rfl, Keeps.of_below (unhide B1), fun n hn => ?_⟩
    obtain ⟨xs, h1, h2, h3⟩ := h.sets n hn
    exact ⟨xs, h1.later (unhide B1), fun x => by rw [h2]; simp, by rw [h3]; simp⟩
  case round =>
    obtain ⟨j, hj, rfl, k1, hsets⟩ := hrel
    have HK := hide (And.intro k1 hsets)
    by_cases hlt : j < os.length
    · obtain ⟨h, ha, hk, hR, ht, hl, hB, hq, hroom, hno⟩ := unhide HH
      obtain ⟨xs, h1, h2, h3⟩ := hsets j hlt
      have hx : ∀ x, x ∈ xs ↔ x ∈ nKeys ns := fun x => by rw [h2]; simp
      have hxl : xs.length = ns.length := by rw [h3]; simp
      obtain ⟨g, off, e1, hcell⟩ := row_in (hR.stays ((unhide STAY wr k1).mono (fun b h => h.1))) hlt
      have hins := insert_T (Fre hb mb sh) wr _ _ (os.getD j []) t xs _ h1 (ht.stays (unhide STAY wr k1)).ints hB (fun b hb' => h.new b (Nat.le_trans k1.size hb'))
      have hc : xs.contains t = false := by
        rw [Bool.eq_false_iff, ne_eq, List.contains_iff_mem, hx]
        exact getN_none.1 hq
      have e2 : insBL (os.getD j []) t xs = true := by unfold insBL; rw [hno j hlt, hc, hxl]; simpa using hroom
      have e3 : insEL (os.getD j []) t xs = 0 := by unfold insEL; rw [hno j hlt, hc, hxl]; simp [hroom]
      have e4 : insTo (os.getD j []) t xs = insX (os.getD j []) t xs := if_pos e2
      rw [e2, e3, e4] at hins
      subst e1
      have HX := hide (And.intro hx hxl)
      clear h ha hk hR ht hl hB hq hroom hno h1 h2 h3 hx hxl hc e2 e3 e4 hsets k1
      go_wp2_with fail
      refine hins.mono ?_
      clear hins
      rintro e w3 ⟨rfl, hT, k3⟩
      have H3 := hide (And.intro hT k3)
      clear hT k3
      go_wp2_with fail
      go_roundw
      case rel =>
        obtain ⟨hx, hxl⟩ := unhide HX
        obtain ⟨k1, hsets⟩ := unhide HK
        have := (unhide HH).1.step hlt k1 hsets hx hxl (unhide H3).2 (unhide H3).1
        have e : ((j + 1 : Nat) : Int) = (j : Int) + 1 := by omega
        rw [e] at this
        exact this
      case measure => simp [intOf]; omega
    · have hjn : j = os.length := by omega
      have hcw := (unhide C3 wr k1).1
      have hg : ¬ ((j : Int) < (os.length : Int)) := by omega
      clear hsets k1
      go_wp2_with fail
      refine region_mixN (md := [(0, true), (1, true), (2, true), (3, true), (4, true), (6, true), (5, false), (7, false)]) (fun w' => w'.cell? ⟨hb, 3, none⟩ = some (.map (some mb))) mixed (by kernel_rfl) rfl (by kernel_rfl) (fun PP hPP => ?_)
      iterate 6 (refine wpMix_take (v := ?_) rfl (by kernel_rfl) (fun w' hw => ?_) ?_; rotate_left; · (go_simp; try with_reducible rfl))
      refine wpMix_force rfl hcw (fun K hK => ?_)
      go_simp
      refine (unhide KEYW _ (unhide STAY _ ((unhide HK).1.drew))).mono ?_
      rintro e w3 ⟨rfl, b3⟩
      have k3 : Keeps (fun b => b ∈ sh.map (·.2)) w w3 := (unhide HK).1.drew.trans (Keeps.of_below b3 (O := fun b => b ∈ sh.map (·.2))) (fun _ _ e => e)
      obtain ⟨hc3, hm3⟩ := unhide C3 w3 k3
      obtain ⟨w4, hr, hm4, k4⟩ := set_K w3 mb (nMap ns) t (noteV a k) hm3
      have hc4 : w4.cell? ⟨hb, 3, none⟩ = some (.map (some mb)) := k4.cell hc3 (unhide HH).1.hbmb
      have H4 := hide (And.intro b3 (And.intro k3 (And.intro hm4 k4)))
      clear hm4 k4 b3 k3 hm3
      go_wp2_with fail
      refine wpMix_force rfl hc3 (fun K hK => ?_)
      go_simp
      refine hK _ _ ?_
      clear hK K
      refine wpMix_nil hc4 (hPP _ _ ?_)
      clear hPP
      go_wp2_with fail
      go_ret2
      obtain ⟨b3, k3, hm4, k4⟩ := unhide H4
      obtain ⟨h, ha, hk, hR, ht, hl, hB, hq, hroom, hno⟩ := unhide HH
      obtain ⟨k1, hsets⟩ := unhide HK
      subst hjn
      refine ⟨rfl, h.came hq hl hB ha hk k3 (fun n hn => ?_) k4 hm4, (k3.mono (fun b e => ?_)).trans k4 (fun b _ e => ?_)⟩
      · obtain ⟨xs, h1, h2, h3⟩ := hsets n hn
        exact ⟨xs, (h1.later ((Below.refl _ wr).drew)).later b3, h2, h3⟩
      · simp only [Dk, List.mem_cons]; exact .inr (.inr e)
      · rw [e]; simp [Dk]
end Go.Proofs.YthcljhfankooaabGreat
