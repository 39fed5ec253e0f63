/- The tokens of a written program. Tokens of an expression are read as that expression. Tokens of a program are read as that program. -/
import Derived.Test.YtccehgfecaamoaaGreatDoorQb30
set_option maxRecDepth 100000
set_option maxHeartbeats 32000000
namespace Go.Proofs.YtccehgfecaamoaaGreatDoor
section
def WfA (x : Atm) : Prop := Nm x.rel ∧ x.args.length ≤ 8 ∧ ∀ e ∈ x.args, WfE e
inductive WfL : Lt → Prop
 | atom (a : Atm) (p : Int) (h : WfA a) : WfL ⟨1, a, [], .none, .none, p⟩
 | not (a : Atm) (p : Int) (h : WfA a) : WfL ⟨2, a, [], .none, .none, p⟩
 | cmp (o : Txt) (x y : Ex) (p : Int) (ho : o ∈ cmps) (hx : WfE x) (hy : WfE y) : WfL ⟨3, .none, o, x, y, p⟩
def WfC (x : Cls) : Prop := WfA x.head ∧ x.body.length ≤ 16 ∧ ∀ l ∈ x.body, WfL l
def WfF (f : Fld) : Prop := Wd f.name ∧ Nm f.type
def WfCt (c : Ctr) : Prop := Wd c.name ∧ c.fields.length ≤ 8 ∧ ∀ f ∈ c.fields, WfF f
def WfT (t : Typ) : Prop := Wd t.name ∧ ((Nm t.sub ∧ t.ctors = []) ∨ (t.sub = [] ∧ t.ctors ≠ [] ∧ t.ctors.length ≤ noMost ∧ ∀ c ∈ t.ctors, WfCt c))
def WfD (d : Dcl) : Prop := Wd d.name ∧ d.cols.length ≤ 8 ∧ ∀ f ∈ d.cols, WfF f
def WfI (i : Ini) : Prop := Wd i.name ∧ Nm i.comp
def WfX (n : Txt) (bs : List Txt) : Prop := Wd n ∧ bs.length ≤ noMost ∧ ∀ b ∈ bs, Nm b
inductive WfP : Pg → Prop
 | mk (ts : List Typ) (ds : List Dcl) (cs : List Cp) (is : List Ini) (ls : List Cls) (hT : ∀ t ∈ ts, WfT t) (hD : ∀ d ∈ ds, WfD d) (hC : ∀ x ∈ cs, WfX x.1 x.2.1) (hI : ∀ i ∈ is, WfI i) (hL : ∀ l ∈ ls, WfC l) (hP : ∀ x ∈ cs, WfP x.2.2.1) : WfP (.mk ts ds cs is ls)
def sg (s : Txt) : Tok := tk 4 s 0
def nmK (s : Txt) : Tok := tk 1 s 0
def fdK (x : Fld) : List Tok := [nmK x.name, sg [58], nmK x.type]
def ctK (x : Ctr) : List Tok := [nmK x.name, sg [123]] ++ joinK [44] (x.fields.map fdK) ++ [sg [125]]
def tyK (x : Typ) : List Tok := [sg [46, 116, 121, 112, 101], nmK x.name] ++ (if x.sub = [] then [sg [61]] ++ joinK [124] (x.ctors.map ctK) else [sg [60, 58], nmK x.sub])
def dcK (x : Dcl) : List Tok := [sg [46, 100, 101, 99, 108], nmK x.name, sg [40]] ++ joinK [44] (x.cols.map fdK) ++ [sg [41]] ++ (if x.input then [nmK wIn] else []) ++ (if x.output then [nmK wOut] else [])
def inK (x : Ini) : List Tok := [sg [46, 105, 110, 105, 116], nmK x.name, sg [61], nmK x.comp]
def amK (x : Atm) : List Tok := [nmK x.rel, sg [40]] ++ joinK [44] (x.args.map exK) ++ [sg [41]]
def ltK (x : Lt) : List Tok := if x.kind = 1 then amK x.atom else if x.kind = 2 then sg [33] :: amK x.atom else if x.kind = 3 then exK x.l ++ [sg x.op] ++ exK x.r else []
def clK (x : Cls) : List Tok := amK x.head ++ (if x.body = [] then [] else sg [58, 45] :: joinK [44] (x.body.map ltK)) ++ [sg [46]]
def coK (n : Txt) (bs : List Txt) (k : List Tok) : List Tok := [sg [46, 99, 111, 109, 112], nmK n] ++ (if bs = [] then [] else sg [58] :: joinK [44] (bs.map fun b => [nmK b])) ++ [sg [123]] ++ k ++ [sg [125]]
mutual
def pgK : Pg → List Tok
 | .mk ts ds cs is ls => (ts.map tyK).flatten ++ (ds.map dcK).flatten ++ (cpKs cs).flatten ++ (is.map inK).flatten ++ (ls.map clK).flatten
def cpKs : List Cp → List (List Tok)
 | [] => []
 | (n, bs, p, _) :: cs => coK n bs (pgK p) :: cpKs cs
end
def cpK (x : Cp) : List Tok := coK x.1 x.2.1 (pgK x.2.2.1)
theorem Qol : ∀ cs : List Cp, cpKs cs = cs.map cpK
 | [] => by simp [cpKs]
 | (n, bs, p, a) :: cs => by rw [cpKs, Qol cs]; rfl
def LxN (t : Txt) (ks : List Tok) : Prop := ∀ r ts, LxR r ts → LxR (t ++ 10 :: r) (ks ++ ts)
theorem stop_nl (r : Txt) : Stop (10 :: r) := Qbi (by decide) (by decide)
theorem LxS.line {t : Txt} {ks : List Tok} (h : LxS t ks) : LxN t ks := fun r ts hh => h _ _ (stop_nl r) (Qam (by decide) hh)
theorem Qee {α : Type} {T : α → Txt} {K : α → List Tok} : ∀ xs : List α, (∀ x ∈ xs, LxN (T x) (K x)) → ∀ r ts, LxR r ts → LxR (linesT (xs.map T) ++ r) ((xs.map K).flatten ++ ts)
 | [], _, r, ts, h => h
 | x :: xs, hx, r, ts, h => by
  have h1 := Qee xs (fun y hy => hx y (List.mem_cons_of_mem _ hy)) r ts h
  have h2 := hx x (by simp) _ _ h1
  simpa [linesT] using h2
theorem lxs_fd {x : Fld} (h : WfF x) : LxS (fdT x) (fdK x) := fun r ts hr hh => by
 have h1 := Qbf h.2 hr hh
 have h2 := Qli (c := 58) (by decide) (Qam (c := 32) (by decide) h1)
 have h3 := Qbf h.1.1 (Qbi (by decide) (by decide)) h2
 simpa [fdT, fdK, nmK, sg] using h3
theorem Qxj {xs : List Fld} (h : ∀ f ∈ xs, WfF f) : LxS (joinT [44, 32] (xs.map fdT)) (joinK [44] (xs.map fdK)) := Qfm Qfh Qeh xs (fun f hf => lxs_fd (h f hf))
theorem lxs_ct {x : Ctr} (h : WfCt x) : LxS (ctT x) (ctK x) := fun r ts _ hh => by
 have h1 := Qaw (c := 125) (by decide) hh
 have h2 := Qxj h.2.2 _ _ (Qbi (by decide) (by decide)) h1
 have h3 := Qam (c := 32) (by decide) (Qaw (c := 123) (by decide) h2)
 have h4 := Qbf h.1.1 (Qbi (by decide) (by decide)) h3
 simpa [ctT, ctK, nmK, sg] using h4
theorem sep_bar (r : Txt) (ts : List Tok) (h : LxR r ts) : LxR ([32, 124, 32] ++ r) (tk 4 [124] 0 :: ts) := Qam (by decide) (Qaw (by decide) (Qam (by decide) h))
theorem Jbm (r : Txt) : Stop ([32, 124, 32] ++ r) := Qbi (by decide) (by decide)
theorem Nm.ne {s : Txt} (h : Nm s) : s ≠ [] := fun e => by have := h.1; rw [e] at this; simp at this
theorem lxs_ty {x : Typ} (h : WfT x) : LxS (tyT x) (tyK x) := fun r ts hr hh => by
 rcases h.2 with ⟨hs, _⟩ | ⟨hs, _, _, hc⟩
 ·
  have h1 := Qbf hs hr hh
  have h2 := Qam (c := 32) (by decide) (Qil (a := 60) (b := 58) (by decide) (Qam (c := 32) (by decide) h1))
  have h3 := Qbf h.1.1 (Qbi (by decide) (by decide)) h2
  have h4 := Qfl (s := [46, 116, 121, 112, 101]) (by decide) h3
  simpa [tyT, tyK, nmK, sg, hs.ne] using h4
 have h1 := Qfm sep_bar Jbm x.ctors (fun c hx => lxs_ct (hc c hx)) r ts hr hh
 have h2 := Qam (c := 32) (by decide) (Qaw (c := 61) (by decide) (Qam (c := 32) (by decide) h1))
 have h3 := Qbf h.1.1 (Qbi (by decide) (by decide)) h2
 have h4 := Qfl (s := [46, 116, 121, 112, 101]) (by decide) h3
 simpa [tyT, tyK, nmK, sg, hs] using h4
theorem nm_in5 : Nm wIn := ⟨by decide, by decide, by decide, 105, _, rfl, by decide⟩
theorem nm_out6 : Nm wOut := ⟨by decide, by decide, by decide, 111, _, rfl, by decide⟩
theorem lxs_dc {x : Dcl} (h : WfD x) : LxS (dcT x) (dcK x) := fun r ts hr hh => by
 have ho : LxR ((if x.output then [32, 111, 117, 116, 112, 117, 116] else []) ++ r) ((if x.output then [nmK wOut] else []) ++ ts) ∧ Stop ((if x.output then [32, 111, 117, 116, 112, 117, 116] else []) ++ r) := by
  split
  · exact ⟨Qam (by decide) (Qbf nm_out6 hr hh), Qbi (by decide) (by decide)⟩
  · exact ⟨hh, hr⟩
 have hi : LxR ((if x.input then [32, 105, 110, 112, 117, 116] else []) ++ ((if x.output then [32, 111, 117, 116, 112, 117, 116] else []) ++ r)) ((if x.input then [nmK wIn] else []) ++ ((if x.output then [nmK wOut] else []) ++ ts)) := by
  split
  · exact Qam (by decide) (Qbf nm_in5 ho.2 ho.1)
  · exact ho.1
 have h1 := Qaw (c := 41) (by decide) hi
 have h2 := Qxj h.2.2 _ _ (Qbi (by decide) (by decide)) h1
 have h3 := Qaw (c := 40) (by decide) h2
 have h4 := Qbf h.1.1 (Qbi (by decide) (by decide)) h3
 have h5 := Qfl (s := [46, 100, 101, 99, 108]) (by decide) h4
 simpa [dcT, dcK, nmK, sg] using h5
theorem lxs_in {x : Ini} (h : WfI x) : LxS (inT x) (inK x) := fun r ts hr hh => by
 have h1 := Qbf h.2 hr hh
 have h2 := Qam (c := 32) (by decide) (Qaw (c := 61) (by decide) (Qam (c := 32) (by decide) h1))
 have h3 := Qbf h.1.1 (Qbi (by decide) (by decide)) h2
 have h4 := Qfl (s := [46, 105, 110, 105, 116]) (by decide) h3
 simpa [inT, inK, nmK, sg] using h4
theorem Qre {x : Atm} (h : WfA x) {r : Txt} {ts : List Tok} (hh : LxR r ts) : LxR (amT x ++ r) (amK x ++ ts) := by
 have h1 := Qaw (c := 41) (by decide) hh
 have h2 := Qfm Qfh Qeh x.args (fun e he => Qxi (h.2.2 e he)) _ _ (Qbi (by decide) (by decide)) h1
 have h3 := Qaw (c := 40) (by decide) h2
 have h4 := Qbf h.1 (Qbi (by decide) (by decide)) h3
 simpa [amT, amK, nmK, sg] using h4
theorem am_head {x : Atm} (h : WfA x) (r : Txt) : ∃ d t, amT x ++ r = d :: t ∧ isL (bv d) = true := by
 obtain ⟨_, _, _, c, t, e, hc⟩ := h.1
 exact ⟨c, t ++ ([40] ++ joinT [44, 32] (x.args.map exT) ++ [41] ++ r), by simp [amT, e], hc⟩
theorem lxr_cmp {s r : Txt} {ts : List Tok} (hs : s ∈ cmps) (h : LxR r ts) : LxR (32 :: (s ++ 32 :: r)) (tk 4 s 0 :: ts) := by
 refine Qam (by decide) ?_
 simp only [cmps, List.mem_cons, List.not_mem_nil, or_false] at hs
 rcases hs with rfl | rfl | rfl | rfl | rfl | rfl
 · exact Qaw (by decide) (Qam (by decide) h)
 · exact Qil (by decide) (Qam (by decide) h)
 · exact Qli (by decide) (Qam (by decide) h)
 · exact Qil (by decide) (Qam (by decide) h)
 · exact Qli (by decide) (Qam (by decide) h)
 · exact Qil (by decide) (Qam (by decide) h)
theorem lxs_lt {x : Lt} (h : WfL x) : LxS (ltT x) (ltK x) := fun r ts hr hh => by
 cases h with
 | atom a p h => simpa [ltT, ltK] using Qre h hh
 | not a p h =>
  obtain ⟨d, t, e, hd⟩ := am_head h r
  have h1 := Qre h hh
  rw [e] at h1
  have h2 := Jaq hd h1
  rw [← e] at h2
  simpa [ltT, ltK, sg] using h2
 | cmp o x y p ho hx hy =>
  have h1 := Qxi hy r ts hr hh
  have h2 := lxr_cmp ho h1
  have h3 := Qxi hx _ _ (Qbi (by decide) (by decide)) h2
  simpa [ltT, ltK, sg] using h3
theorem lxn_cl {x : Cls} (h : WfC x) : LxN (clT x) (clK x) := fun r ts hh => by
 have h1 := lxr_dot hh
 by_cases hb : x.body = []
 ·
  have h2 := Qre h.1 h1
  simpa [clT, clK, hb, sg] using h2
 have h2 := Qfm Qfh Qeh x.body (fun l hl => lxs_lt (h.2.2 l hl)) _ _ (Jbn r) h1
 have h3 := Qam (c := 32) (by decide) (Qil (a := 58) (b := 45) (by decide) (Qam (c := 32) (by decide) h2))
 have h4 := Qre h.1 h3
 simpa [clT, clK, hb, sg] using h4
theorem lxn_co {n : Txt} {bs : List Txt} {t : Txt} {k : List Tok} (h : WfX n bs) (ht : ∀ r ts, LxR r ts → LxR (t ++ r) (k ++ ts)) : LxN (coT n bs t) (coK n bs k) := fun r ts hh => by
 have h1 := Qaw (c := 125) (by decide) (Qam (c := 10) (by decide) hh)
 have h2 := ht _ _ h1
 have h3 := Qam (c := 32) (by decide) (Qaw (c := 123) (by decide) (Qam (c := 10) (by decide) h2))
 by_cases hb : bs = []
 ·
  have h4 := Qbf h.1.1 (Qbi (by decide) (by decide)) h3
  have h5 := Qfl (s := [46, 99, 111, 109, 112]) (by decide) h4
  simpa [coT, coK, hb, sg, nmK] using h5
 have h4 := Qfm (T := id) (K := fun b => [nmK b]) Qfh Qeh bs (fun b hx r ts hr hq => Qbf (h.2.2 b hx) hr hq) _ _ (Qbi (by decide) (by decide)) h3
 have h5 := Qam (c := 32) (by decide) (Qli (c := 58) (by decide) (Qam (c := 32) (by decide) h4))
 have h6 := Qbf h.1.1 (Qbi (by decide) (by decide)) h5
 have h7 := Qfl (s := [46, 99, 111, 109, 112]) (by decide) h6
 simpa [coT, coK, hb, sg, nmK] using h7
theorem lxr_pg {p : Pg} (hp : WfP p) : ∀ r ts, LxR r ts → LxR (pgT p ++ r) (pgK p ++ ts) := by
 induction hp with
 | mk ts ds cs is ls hT hD hC hI hL hP ih =>
  intro r tt hh
  have h1 := Qee ls (fun x hx => lxn_cl (hL x hx)) _ _ hh
  have h2 := Qee is (fun x hx => (lxs_in (hI x hx)).line) _ _ h1
  have h3 := Qee (T := cpT) (K := cpK) cs (fun x hx => lxn_co (hC x hx) (ih x hx)) _ _ h2
  have h4 := Qee ds (fun x hx => (lxs_dc (hD x hx)).line) _ _ h3
  have h5 := Qee ts (fun x hx => (lxs_ty (hT x hx)).line) _ _ h4
  simpa [pgT, pgK, Qom, Qol] using h5
end
section
section
variable (e : Nat)
theorem Qhh (s : Txt) (l : List Tok) : sgn e (sg s :: l) = s := rfl
theorem Qew (s : Txt) (l : List Tok) (i : Nat) : want e s (sg s :: l) i = .ok () l i := by unfold want; rw [if_pos (Qhh e s l)]; rfl
theorem Qna (s : Txt) (l : List Tok) (i : Nat) : nmQ e (nmK s :: l) i = .ok s l i := rfl
theorem Qct {s : Txt} (h : Wd s) (l : List Tok) (i : Nat) : wordQ e (nmK s :: l) i = .ok s l i := by
 have hw : isW1 (nmK s) = true := by
  unfold isW1
  rw [decide_eq_true (show (nmK s).kind = 1 from rfl), decide_eq_true (show (nmK s).text ≠ [95] from h.2.1), show (nmK s).text.contains 46 = false from h.2.2]; rfl
 unfold wordQ
 rw [show ahd e 0 (nmK s :: l) = nmK s from rfl, if_pos hw]; rfl
theorem Qea {s : Txt} {ss : List Txt} (h : s ∈ ss) (l : List Tok) (i : Nat) : choose e ss (sg s :: l) i = .ok s l i := by unfold choose; rw [Qhh, if_pos h]; rfl
def NoOp (l : List Tok) : Prop := sgn e l ∉ [[42], [47], [37]] ∧ sgn e l ∉ [[43], [45]]
theorem Qdk {O : Pr Ex} {signs : List Txt} {l r : List Tok} {i j : Nat} {x : Ex} (h : O l i = .ok x r j) (hn : sgn e r ∉ signs) : joined e O signs l i = .ok x r j := by
 unfold joined
 rw [h]
 show joinL e O signs (r.length + 1) x r j = _
 rw [joinL, if_neg hn]
theorem Qjs {O : Pr Ex} {signs : List Txt} {l m r : List Tok} {s : Txt} {i j k : Nat} {x y : Ex} (h1 : O l i = .ok x (sg s :: m) j) (hs : s ∈ signs) (h2 : O m j = .ok y r k) (hn : sgn e r ∉ signs) : joined e O signs l i = .ok (opE s x y) r k := by
 unfold joined
 rw [h1]
 show joinL e O signs (m.length + 1 + 1) x (sg s :: m) j = _
 rw [joinL, if_pos (by rw [Qhh]; exact hs)]
 show (O m j).bind _ = _
 rw [h2]
 show joinL e O signs (m.length + 1) (opE s x y) r k = _
 rw [joinL, if_neg hn]
theorem Qww {α : Type} {sep : Txt} {most : Nat} {part : Pr α} {rel : α → α → Prop} {K : α → List Tok} {Fol : List Tok → Prop} (hF : ∀ l, Fol (sg sep :: l)) {rest : List Tok} (hr : Fol rest) (hs : sgn e rest ≠ sep) :
  ∀ (xs : List α) (x : α) (f : Nat) (acc : List α) (i : Nat), (∀ y ∈ x :: xs, ∀ r i, Fol r → ∃ y', part (K y ++ r) i = .ok y' r i ∧ rel y' y) → acc.length + xs.length + 1 ≤ most → xs.length + 1 ≤ f →
   ∃ ys, listL e sep most part f acc (K x ++ ((xs.map K).flatMap (sg sep :: ·) ++ rest)) i = .ok (acc ++ ys) rest i ∧ All2 rel ys (x :: xs)
 | [], x, 0, acc, i, _, _, hf => by simp at hf
 | [], x, f + 1, acc, i, hp, hm, _ => by
  obtain ⟨x', h1, h2⟩ := hp x (by simp) rest i hr
  refine ⟨[x'], ?_, .cons h2 .nil⟩
  rw [listL, if_neg (by simp at hm; omega)]
  show (part (K x ++ rest) i).bind _ = _
  rw [h1]
  show (if sgn e rest = sep then _ else _) = _
  rw [if_neg hs]
 | y :: xs, x, 0, acc, i, _, _, hf => by simp at hf
 | y :: xs, x, f + 1, acc, i, hp, hm, hf => by
  obtain ⟨x', h1, h2⟩ := hp x (by simp) (sg sep :: (K y ++ ((xs.map K).flatMap (sg sep :: ·) ++ rest))) i (hF _)
  obtain ⟨ys, h3, h4⟩ := Qww (most := most) hF hr hs xs y f (acc ++ [x']) i (fun z hz => hp z (List.mem_cons_of_mem _ hz)) (by have h := hm; rw [List.length_cons] at h; rw [List.length_append, List.length_singleton]; omega) (by have h := hf; rw [List.length_cons] at h; omega)
  refine ⟨x' :: ys, ?_, .cons h2 h4⟩
  rw [listL, if_neg (by simp only [List.length_cons] at hm; omega)]
  rw [show K x ++ (((y :: xs).map K).flatMap (sg sep :: ·) ++ rest) = K x ++ (sg sep :: (K y ++ ((xs.map K).flatMap (sg sep :: ·) ++ rest))) by simp, h1]
  show (if sgn e (sg sep :: _) = sep then listL e sep most part f (acc ++ [x']) ((sg sep :: _).drop 1) i else _) = _
  rw [if_pos (Qhh e sep _)]
  show listL e sep most part f (acc ++ [x']) (K y ++ _) i = _
  rw [h3, List.append_assoc]; rfl
theorem Qjq (sep : Txt) (k : List Tok) (ks : List (List Tok)) : joinK sep (k :: ks) = k ++ ks.flatMap (sg sep :: ·) := rfl
theorem Qqw (sep : Txt) : ∀ ks : List (List Tok), ks.length ≤ (ks.flatMap (sg sep :: ·)).length
 | [] => Nat.le_refl _
 | k :: ks => by
  have := Qqw sep ks
  simp only [List.flatMap_cons, List.length_append, List.length_cons]; omega
theorem Qlh {α : Type} {sep : Txt} {most : Nat} {part : Pr α} {rel : α → α → Prop} {K : α → List Tok} {Fol : List Tok → Prop} (hF : ∀ l, Fol (sg sep :: l)) {rest : List Tok} (hr : Fol rest) (hs : sgn e rest ≠ sep) {xs : List α} (hx : xs ≠ []) (hm : xs.length ≤ most) (hp : ∀ y ∈ xs, ∀ r i, Fol r → ∃ y', part (K y ++ r) i = .ok y' r i ∧ rel y' y) (i : Nat) :
  ∃ ys, listP e sep most part (joinK sep (xs.map K) ++ rest) i = .ok ys rest i ∧ All2 rel ys xs := by
 cases xs with
 | nil => exact absurd rfl hx
 | cons x xs =>
  rw [List.map_cons, Qjq, List.append_assoc]
  unfold listP
  obtain ⟨ys, h1, h2⟩ := Qww e hF hr hs xs x ((K x ++ ((xs.map K).flatMap (sg sep :: ·) ++ rest)).length + 1) [] i hp (by simpa using hm) (by
   have := Qqw sep (xs.map K)
   simp only [List.length_append, List.length_map] at this ⊢; omega)
  exact ⟨ys, by simpa using h1, h2⟩
theorem Qoq {α : Type} {op cl : Txt} {part : Pr α} {rel : α → α → Prop} {K : α → List Tok} {Fol : List Tok → Prop} (hF : ∀ l, Fol (sg [44] :: l)) (hc : ∀ l, Fol (sg cl :: l)) (hcl : cl ≠ [44]) {xs : List α} (hm : xs.length ≤ 8) (hK : ∀ y ∈ xs, ∀ r, sgn e (K y ++ r) ≠ cl) (hp : ∀ y ∈ xs, ∀ r i, Fol r → ∃ y', part (K y ++ r) i = .ok y' r i ∧ rel y' y) (r : List Tok) (i : Nat) :
  ∃ ys, encl e op cl part (sg op :: (joinK [44] (xs.map K) ++ sg cl :: r)) i = .ok ys r i ∧ All2 rel ys xs := by
 unfold encl
 rw [Qew]
 show ∃ ys, (if sgn e (joinK [44] (xs.map K) ++ sg cl :: r) = cl then _ else _) = _ ∧ _
 cases xs with
 | nil => exact ⟨[], by rw [show joinK [44] (([] : List α).map K) ++ sg cl :: r = sg cl :: r from rfl, if_pos (Qhh e cl r)]; rfl, .nil⟩
 | cons x xs =>
  obtain ⟨ys, h1, h2⟩ := Qlh e (rest := sg cl :: r) hF (hc r) (by rw [Qhh]; exact hcl) (xs := x :: xs) (by simp) hm hp i
  refine ⟨ys, ?_, h2⟩
  rw [if_neg (by rw [List.map_cons, Qjq, List.append_assoc]; exact hK x (by simp) _), h1]
  simp only [Rs.bind, Qew, Rs.map]
mutual
def dpE : Ex → Nat
 | .mk k _ _ ks _ => dpEs ks + (if k = 5 ∨ k = 6 then 1 else 0)
def dpEs : List Ex → Nat
 | [] => 0
 | x :: xs => max (dpE x) (dpEs xs)
end
theorem Qkx : ∀ {xs : List Ex} {x : Ex}, x ∈ xs → dpE x ≤ dpEs xs
 | y :: xs, x, h => by
  rw [dpEs]
  rcases List.mem_cons.1 h with rfl | h
  · omega
  · have := Qkx h; omega
theorem Qlb (n a : Int) : exK (.mk 2 n [] [] a) = numK n := by simp [exK]
theorem Qqu (s : Txt) (x y : Ex) (a : Int) : exK (.mk 5 0 s [x, y] a) = opdK x.kind (exK x) ++ sg s :: opdK y.kind (exK y) := by simp [exK, exKs, opK, sg]
theorem Qla (s : Txt) (ks : List Ex) (a : Int) : exK (.mk 6 0 s ks a) = sg [36] :: nmK s :: sg [40] :: (joinK [44] (ks.map exK) ++ [sg [41]]) := by simp [exK, Qot, sg, nmK]
theorem Qqt {x : Ex} (h : WfE x) : ∀ r, sgn e (exK x ++ r) ≠ [41] := by
 induction h with
 | var s a h => intro r; exact show ([] : Txt) ≠ [41] by decide
 | num n a h0 h1 =>
  intro r
  rw [Qlb]
  unfold numK
  split
  · exact show ([45] : Txt) ≠ [41] by decide
  · exact show ([] : Txt) ≠ [41] by decide
 | text s a => intro r; exact show ([] : Txt) ≠ [41] by decide
 | any a => intro r; exact show ([] : Txt) ≠ [41] by decide
 | op s x y a hs _ _ ihx ihy =>
  intro r
  rw [Qqu]
  unfold opdK
  by_cases hk : x.kind = 5
  · rw [if_pos hk]; exact show ([40] : Txt) ≠ [41] by decide
  · rw [if_neg hk, List.append_assoc]; exact ihx _
 | con s ks a hs hl hk ih => intro r; rw [Qla]; exact show ([36] : Txt) ≠ [41] by decide
theorem fac_par (E F : Pr Ex) (l : List Tok) (i : Nat) : factorB e E F (sg [40] :: l) i = (E l i).bind fun x l i => (want e [41] l i).map fun _ => x := by
 unfold factorB signed; rw [Qea e (by decide)]; rfl
theorem fac_con (E F : Pr Ex) (l : List Tok) (i : Nat) : factorB e E F (sg [36] :: l) i = (wordQ e l i).bind fun w l3 i => (encl e [40] [41] E l3 i).map fun ks => .mk 6 0 w ks 0 := by
 unfold factorB signed; rw [Qea e (by decide)]; rfl
theorem fac_neg (E F : Pr Ex) (u : Nat) (l : List Tok) (i : Nat) : factorB e E F (sg [45] :: tk 2 [] (u : Int) :: l) i = (F (tk 2 [] (u : Int) :: l) i).map fun x => .mk 2 (- x.num) [] [] 0 := by
 unfold factorB signed; rw [Qea e (by decide)]; rfl
theorem fac_nm (E F : Pr Ex) {s : Txt} (h : Wd s) (l : List Tok) (i : Nat) : factorB e E F (nmK s :: l) i = .ok (.mk 1 0 s [] 0) l i := by
 unfold factorB
 rw [show ahd e 0 (nmK s :: l) = nmK s from rfl]
 rw [if_neg (show ¬ (nmK s).kind = 2 from show ¬ (1 : Int) = 2 by decide), if_neg (show ¬ (nmK s).kind = 3 from show ¬ (1 : Int) = 3 by decide), if_pos (show (nmK s).kind = 1 from rfl), if_neg (show ¬ (nmK s).text = [95] from h.2.1), Qct e h]; rfl
def ExO (x : Ex) : Prop := ∀ d r i, 2 * dpE x + 3 ≤ d → NoOp e r → ∃ x', (exD e d).1 (exK x ++ r) i = .ok x' r i ∧ eqE x' x = true
def FaO (x : Ex) : Prop := ∀ d r i, x.kind ≠ 5 → 2 * dpE x + 2 ≤ d → ∃ x', (exD e d).2 (exK x ++ r) i = .ok x' r i ∧ eqE x' x = true
theorem Qfd {s : Txt} (h : s ∉ [[42], [47], [37]] ∧ s ∉ [[43], [45]]) (l : List Tok) : NoOp e (sg s :: l) := by unfold NoOp; rw [Qhh]; exact h
theorem Jcx {x : Ex} (hE : ExO e x) (hF : FaO e x) (d : Nat) (r : List Tok) (i : Nat) (hd : 2 * dpE x + 4 ≤ d) : ∃ x', (exD e d).2 (opdK x.kind (exK x) ++ r) i = .ok x' r i ∧ eqE x' x = true := by
 unfold opdK
 by_cases hk : x.kind = 5
 ·
  rw [if_pos hk]
  obtain ⟨d, rfl⟩ : ∃ d', d = d' + 1 := ⟨d - 1, by omega⟩
  obtain ⟨x', h1, h2⟩ := hE d (sg [41] :: r) i (by omega) (Qfd e (by decide) r)
  refine ⟨x', ?_, h2⟩
  show factorB e (exD e d).1 (exD e d).2 (sg [40] :: (exK x ++ [sg [41]] ++ r)) i = _
  rw [fac_par, List.append_assoc, List.singleton_append, h1]
  simp only [Rs.bind, Qew, Rs.map]
 rw [if_neg hk]
 exact hF d r i hk (by omega)
theorem Qmr {x : Ex} (hk : x.kind ≠ 5) (hF : FaO e x) : ExO e x := fun d r i hd hr => by
 obtain ⟨d, rfl⟩ : ∃ d', d = d' + 1 := ⟨d - 1, by omega⟩
 obtain ⟨x', h1, h2⟩ := hF d r i hk (by omega)
 exact ⟨x', Qdk e (Qdk e h1 hr.1) hr.2, h2⟩
theorem Qie (k n a b : Int) (s : Txt) : eqE (.mk k n s [] a) (.mk k n s [] b) = true := by simp [eqE, eqEs]
theorem ex_ok {x : Ex} (h : WfE x) : ExO e x ∧ FaO e x := by
 induction h with
 | var s a h =>
  have hF : FaO e (.mk 1 0 s [] a) := fun d r i _ hd => by
   obtain ⟨d, rfl⟩ : ∃ d', d = d' + 1 := ⟨d - 1, by omega⟩
   exact ⟨.mk 1 0 s [] 0, fac_nm e (exD e d).1 (exD e d).2 h r i, Qie _ _ _ _ _⟩
  exact ⟨Qmr e (show (1 : Int) ≠ 5 by decide) hF, hF⟩
 | num n a h0 h1 =>
  have hF : FaO e (.mk 2 n [] [] a) := fun d r i _ hd => by
   obtain ⟨d, rfl⟩ : ∃ d', d = d' + 1 := ⟨d - 1, by omega⟩
   have hd1 : 1 ≤ d := by simp only [dpE, dpEs] at hd; omega
   rw [Qlb]
   show ∃ x', factorB e (exD e d).1 (exD e d).2 (numK n ++ r) i = .ok x' r i ∧ eqE x' (.mk 2 n [] [] a) = true
   unfold numK
   by_cases hn : n < 0
   ·
    rw [if_pos hn]
    refine ⟨.mk 2 (- (n.natAbs : Int)) [] [] 0, ?_, by rw [show - (n.natAbs : Int) = n by omega]; exact Qie _ _ _ _ _⟩
    obtain ⟨d, rfl⟩ : ∃ d', d = d' + 1 := ⟨d - 1, by omega⟩
    exact fac_neg e (exD e (d + 1)).1 (exD e (d + 1)).2 n.natAbs r i
   rw [if_neg hn]
   exact ⟨.mk 2 (n.toNat : Int) [] [] 0, rfl, by rw [show (n.toNat : Int) = n by omega]; exact Qie _ _ _ _ _⟩
  exact ⟨Qmr e (show (2 : Int) ≠ 5 by decide) hF, hF⟩
 | text s a =>
  have hF : FaO e (.mk 3 0 s [] a) := fun d r i _ hd => by
   obtain ⟨d, rfl⟩ : ∃ d', d = d' + 1 := ⟨d - 1, by omega⟩
   exact ⟨.mk 3 0 s [] 0, rfl, Qie _ _ _ _ _⟩
  exact ⟨Qmr e (show (3 : Int) ≠ 5 by decide) hF, hF⟩
 | any a =>
  have hF : FaO e (.mk 4 0 [] [] a) := fun d r i _ hd => by
   obtain ⟨d, rfl⟩ : ∃ d', d = d' + 1 := ⟨d - 1, by omega⟩
   exact ⟨.mk 4 0 [] [] 0, rfl, Qie _ _ _ _ _⟩
  exact ⟨Qmr e (show (4 : Int) ≠ 5 by decide) hF, hF⟩
 | op s x y a hs _ _ ihx ihy =>
  refine ⟨fun d r i hd hr => ?_, fun d r i hk => absurd rfl hk⟩
  obtain ⟨d, rfl⟩ : ∃ d', d = d' + 1 := ⟨d - 1, by omega⟩
  have hdx : 2 * dpE x + 4 ≤ d ∧ 2 * dpE y + 4 ≤ d := by
   simp only [dpE, dpEs, true_or, if_true] at hd
   omega
  obtain ⟨x', h1, h2⟩ := Jcx e ihx.1 ihx.2 d (sg s :: (opdK y.kind (exK y) ++ r)) i hdx.1
  obtain ⟨y', h3, h4⟩ := Jcx e ihy.1 ihy.2 d r i hdx.2
  have ek : exK (.mk 5 0 s [x, y] a) ++ r = opdK x.kind (exK x) ++ sg s :: (opdK y.kind (exK y) ++ r) := by rw [Qqu, List.append_assoc]; rfl
  refine ⟨opE s x' y', ?_, Qir (.cons h2 (.cons h4 .nil))⟩
  rw [ek]
  show joined e (joined e (exD e d).2 [[42], [47], [37]]) [[43], [45]] _ i = _
  by_cases hm : s ∈ ([[42], [47], [37]] : List Txt)
  · exact Qdk e (Qjs e h1 hm h3 hr.1) hr.2
  have ha : s ∈ ([[43], [45]] : List Txt) := by
   simp only [ops5, List.mem_cons, List.not_mem_nil, or_false] at hs hm ⊢
   rcases hs with h | h | h | h | h
   · exact .inl h
   · exact .inr h
   · exact absurd (.inl h) hm
   · exact absurd (.inr (.inl h)) hm
   · exact absurd (.inr (.inr h)) hm
  exact Qjs e (Qdk e h1 (by rw [Qhh]; exact hm)) ha (Qdk e h3 hr.1) hr.2
 | con s ks a hs hl hk ih =>
  have hF : FaO e (.mk 6 0 s ks a) := fun d r i _ hd => by
   obtain ⟨d, rfl⟩ : ∃ d', d = d' + 1 := ⟨d - 1, by omega⟩
   obtain ⟨ys, h1, h2⟩ := Qoq e (op := [40]) (cl := [41]) (part := (exD e d).1) (rel := fun a b => eqE a b = true) (K := exK) (Fol := NoOp e) (Qfd e (by decide)) (Qfd e (by decide)) (by decide) hl (fun y hy r => Qqt e (hk y hy) r) (fun y hy r i hr => (ih y hy).1 d r i (by
    have := Qkx hy
    simp only [dpE, or_true, if_true] at hd
    omega) hr) r i
   have ek : exK (.mk 6 0 s ks a) ++ r = sg [36] :: nmK s :: sg [40] :: (joinK [44] (ks.map exK) ++ sg [41] :: r) := by rw [Qla]; simp
   refine ⟨.mk 6 0 s ys 0, ?_, Qir h2⟩
   rw [ek]
   show factorB e (exD e d).1 (exD e d).2 (sg [36] :: _) i = _
   rw [fac_con, Qct e hs]
   simp only [Rs.bind, h1, Rs.map]
  exact ⟨Qmr e (show (6 : Int) ≠ 5 by decide) hF, hF⟩
end
end
section
def dpLt (l : Lt) : Nat := max (dpEs l.atom.args) (dpEs [l.l, l.r])
def dpLs : List Lt → Nat
 | [] => 0
 | l :: ls => max (dpLt l) (dpLs ls)
def dpCl (c : Cls) : Nat := max (dpEs c.head.args) (dpLs c.body)
def dpCls : List Cls → Nat
 | [] => 0
 | c :: cs => max (dpCl c) (dpCls cs)
mutual
def dpP : Pg → Nat × Nat
 | .mk _ _ cs _ ls => ((dpCs cs).1, max (dpCls ls) (dpCs cs).2)
def dpCs : List Cp → Nat × Nat
 | [] => (0, 0)
 | (_, _, p, _) :: cs => (max ((dpP p).1 + 1) (dpCs cs).1, max (dpP p).2 (dpCs cs).2)
end
theorem Qop : ∀ {xs : List Lt} {x : Lt}, x ∈ xs → dpLt x ≤ dpLs xs
 | y :: xs, x, h => by
  rw [dpLs]
  rcases List.mem_cons.1 h with rfl | h
  · omega
  · have := Qop h; omega
theorem Qkw : ∀ {xs : List Cls} {x : Cls}, x ∈ xs → dpCl x ≤ dpCls xs
 | y :: xs, x, h => by
  rw [dpCls]
  rcases List.mem_cons.1 h with rfl | h
  · omega
  · have := Qkw h; omega
theorem Qoo : ∀ {xs : List Cp} {x : Cp}, x ∈ xs → (dpP x.2.2.1).1 + 1 ≤ (dpCs xs).1 ∧ (dpP x.2.2.1).2 ≤ (dpCs xs).2
 | (n, bs, p, a) :: xs, x, h => by
  rw [dpCs]
  rcases List.mem_cons.1 h with rfl | h
  · simp only; omega
  · have := Qoo h; simp only; omega
mutual
def nP : Pg → Nat
 | .mk ts ds cs is ls => ts.length + ds.length + nCs cs + is.length + ls.length
def nCs : List Cp → Nat
 | [] => 0
 | (_, _, p, _) :: cs => (1 + nP p) + nCs cs
end
theorem Qxm : ∀ cs : List Cp, nCs cs = (cs.map fun x => 1 + nP x.2.2.1).sum
 | [] => by simp [nCs]
 | (n, bs, p, a) :: cs => by rw [nCs, Qxm cs]; simp
section
variable (e : Nat)
theorem exK_sgn {x : Ex} (h : WfE x) : ∀ r, sgn e (exK x ++ r) ≠ [33] := by
 induction h with
 | var s a h => intro r; exact show ([] : Txt) ≠ [33] by decide
 | num n a h0 h1 =>
  intro r
  rw [Qlb]
  unfold numK
  split
  · exact show ([45] : Txt) ≠ [33] by decide
  · exact show ([] : Txt) ≠ [33] by decide
 | text s a => intro r; exact show ([] : Txt) ≠ [33] by decide
 | any a => intro r; exact show ([] : Txt) ≠ [33] by decide
 | op s x y a hs _ _ ihx ihy =>
  intro r
  rw [Qqu]
  unfold opdK
  by_cases hk : x.kind = 5
  · rw [if_pos hk]; exact show ([40] : Txt) ≠ [33] by decide
  · rw [if_neg hk, List.append_assoc]; exact ihx _
 | con s ks a hs hl hk ih => intro r; rw [Qla]; exact show ([36] : Txt) ≠ [33] by decide
theorem Qut (s o : Txt) (r : List Tok) (h : o ≠ [40]) : callN e (nmK s :: sg o :: r) = false := by
 unfold callN
 rw [show (ahd e 1 (nmK s :: sg o :: r)).text = o from rfl, decide_eq_false h, Bool.and_false]
theorem Qga (t : Tok) (l : List Tok) (h : t.kind ≠ 1) : callN e (t :: l) = false := by
 unfold callN
 rw [show (ahd e 0 (t :: l)).kind = t.kind from rfl, decide_eq_false h]; rfl
theorem Jag {x : Ex} (h : WfE x) : ∀ o r, o ≠ [40] → callN e (exK x ++ sg o :: r) = false := by
 induction h with
 | var s a h => intro o r ho; exact Qut e s o r ho
 | num n a h0 h1 =>
  intro o r ho
  rw [Qlb]
  unfold numK
  split
  · exact Qga e _ _ (show (4 : Int) ≠ 1 by decide)
  · exact Qga e _ _ (show (2 : Int) ≠ 1 by decide)
 | text s a => intro o r ho; exact Qga e _ _ (show (3 : Int) ≠ 1 by decide)
 | any a => intro o r ho; exact Qut e [95] o r ho
 | op s x y a hs _ _ ihx ihy =>
  intro o r ho
  rw [Qqu]
  unfold opdK
  by_cases hk : x.kind = 5
  · rw [if_pos hk]; exact Qga e _ _ (show (4 : Int) ≠ 1 by decide)
  rw [if_neg hk, List.append_assoc]
  refine ihx s _ ?_
  intro e1
  subst e1
  exact absurd hs (by decide)
 | con s ks a hs hl hk ih => intro o r ho; rw [Qla]; exact Qga e _ _ (show (4 : Int) ≠ 1 by decide)
theorem Qkm {x : Atm} (h : WfA x) (d : Nat) (hd : 2 * dpEs x.args + 3 ≤ d) (r : List Tok) (i : Nat) : ∃ x', atomP e d (amK x ++ r) i = .ok x' r i ∧ eqA x' x = true := by
 obtain ⟨ys, h1, h2⟩ := Qoq e (op := [40]) (cl := [41]) (part := (exD e d).1) (rel := fun a b => eqE a b = true) (K := exK) (Fol := NoOp e) (Qfd e (by decide)) (Qfd e (by decide)) (by decide) h.2.1 (fun y hy r => Qqt e (h.2.2 y hy) r) (fun y hy r i hr => (ex_ok e (h.2.2 y hy)).1 d r i (by have := Qkx hy; omega) hr) r i
 have ek : amK x ++ r = nmK x.rel :: sg [40] :: (joinK [44] (x.args.map exK) ++ sg [41] :: r) := by simp [amK]
 refine ⟨⟨x.rel, ys, 0⟩, ?_, by unfold eqA; rw [h2.eqL]; simp⟩
 rw [ek]
 unfold atomP
 rw [Qna]
 simp only [Rs.bind, h1, Rs.map]
 rfl
theorem Qor {k p q : Int} {a b : Atm} {o : Txt} {x y x' y' : Ex} (h1 : eqA a b = true) (h2 : eqE x x' = true) (h3 : eqE y y' = true) : eqLt ⟨k, a, o, x, y, p⟩ ⟨k, b, o, x', y', q⟩ = true := by
 unfold eqLt; simp [h1, h2, h3]
theorem cmps_no : ∀ o ∈ cmps, (o ∉ ([[42], [47], [37]] : List Txt) ∧ o ∉ ([[43], [45]] : List Txt)) ∧ o ≠ [40] := by decide
theorem lit_ok {x : Lt} (h : WfL x) (d : Nat) (hd : 2 * dpLt x + 3 ≤ d) (r : List Tok) (i : Nat) (hr : NoOp e r) : ∃ x', litP e d (ltK x ++ r) i = .ok x' r i ∧ eqLt x' x = true := by
 cases h with
 | atom a p h =>
  obtain ⟨a', h1, h2⟩ := Qkm e h d (by unfold dpLt at hd; simp only at hd; omega) r i
  refine ⟨⟨1, a', [], .none, .none, 0⟩, ?_, Qor h2 (Qdo _) (Qdo _)⟩
  have hk : ltK ⟨1, a, [], .none, .none, p⟩ = amK a := by simp [ltK]
  rw [hk]
  unfold litP
  rw [if_neg (show ¬ sgn e (amK a ++ r) = [33] from show ¬ ([] : Txt) = [33] by decide), if_pos (show callN e (amK a ++ r) = true from rfl), h1]
  rfl
 | not a p h =>
  obtain ⟨a', h1, h2⟩ := Qkm e h d (by unfold dpLt at hd; simp only at hd; omega) r i
  refine ⟨⟨2, a', [], .none, .none, 0⟩, ?_, Qor h2 (Qdo _) (Qdo _)⟩
  have hk : ltK ⟨2, a, [], .none, .none, p⟩ = sg [33] :: amK a := by simp [ltK]
  rw [hk]
  unfold litP
  rw [if_pos (show sgn e (sg [33] :: amK a ++ r) = [33] from rfl)]
  show (atomP e d (amK a ++ r) i).map _ = _
  rw [h1]
  rfl
 | cmp o x y p ho hx hy =>
  obtain ⟨ho5, ho4⟩ := cmps_no o ho
  have hdx : 2 * dpE x + 3 ≤ d ∧ 2 * dpE y + 3 ≤ d := by unfold dpLt at hd; simp only [dpEs] at hd; omega
  obtain ⟨x', h1, h2⟩ := (ex_ok e hx).1 d (sg o :: (exK y ++ r)) i hdx.1 (Qfd e ho5 _)
  obtain ⟨y', h3, h4⟩ := (ex_ok e hy).1 d r i hdx.2 hr
  have hk : ltK ⟨3, .none, o, x, y, p⟩ ++ r = exK x ++ sg o :: (exK y ++ r) := by simp [ltK]
  obtain ⟨q, hq⟩ : ∃ q : Int, q = ((ahd e 0 (exK x ++ sg o :: (exK y ++ r))).at_ : Int) := ⟨_, rfl⟩
  refine ⟨⟨3, .none, o, x', y', q⟩, ?_, Qor (Qkz _) h2 h4⟩
  rw [hk]
  unfold litP
  rw [if_neg (exK_sgn e hx _), if_neg (by rw [Jag e hx o _ ho4]; simp), h1]
  simp only [Rs.bind]
  rw [Qea e (show o ∈ ([[61], [33, 61], [60], [60, 61], [62], [62, 61]] : List Txt) from ho)]
  simp only [h3, Rs.map, hq]
theorem Quv {x : Cls} (h : WfC x) (d : Nat) (hd : 2 * dpCl x + 3 ≤ d) (r : List Tok) (i : Nat) : ∃ x', clauseP e d (clK x ++ r) i = .ok x' r i ∧ eqCl x' x = true := by
 unfold dpCl at hd
 by_cases hb : x.body = []
 ·
  obtain ⟨a', h1, h2⟩ := Qkm e h.1 d (by omega) (sg [46] :: r) i
  have ek : clK x ++ r = amK x.head ++ sg [46] :: r := by simp [clK, hb]
  refine ⟨⟨a', [], ((ahd e 0 (clK x ++ r)).at_ : Int)⟩, ?_, by unfold eqCl; rw [h2, hb]; simp [eqL]⟩
  unfold clauseP
  rw [ek, h1]
  simp only [Rs.bind]
  rw [if_neg (show ¬ sgn e (sg [46] :: r) = [58, 45] from show ¬ ([46] : Txt) = [58, 45] by decide), Qew]
  rfl
 obtain ⟨ls, h3, h4⟩ := Qlh e (sep := [44]) (most := 16) (part := litP e d) (rel := fun a b => eqLt a b = true) (K := ltK) (Fol := NoOp e) (Qfd e (by decide)) (rest := sg [46] :: r) (Qfd e (by decide) r) (show ([46] : Txt) ≠ [44] by decide) hb h.2.1 (fun y hy r i hr => lit_ok e (h.2.2 y hy) d (by have := Qop hy; omega) r i hr) i
 obtain ⟨a', h1, h2⟩ := Qkm e h.1 d (by omega) (sg [58, 45] :: (joinK [44] (x.body.map ltK) ++ sg [46] :: r)) i
 have ek : clK x ++ r = amK x.head ++ sg [58, 45] :: (joinK [44] (x.body.map ltK) ++ sg [46] :: r) := by simp [clK, hb]
 refine ⟨⟨a', ls, ((ahd e 0 (clK x ++ r)).at_ : Int)⟩, ?_, by unfold eqCl; rw [h2, h4.eqL]; rfl⟩
 unfold clauseP
 rw [ek, h1]
 simp only [Rs.bind]
 rw [if_pos (show sgn e (sg [58, 45] :: (joinK [44] (x.body.map ltK) ++ sg [46] :: r)) = [58, 45] from rfl)]
 show (listP e [44] 16 (litP e d) (joinK [44] (x.body.map ltK) ++ sg [46] :: r) i).bind _ = _
 rw [h3]
 simp only [Rs.bind, Qew, Rs.map]
theorem Jai {x : Fld} (h : WfF x) (r : List Tok) (i : Nat) : fieldP e (fdK x ++ r) i = .ok x r i := by
 show fieldP e (nmK x.name :: sg [58] :: nmK x.type :: r) i = _
 unfold fieldP
 rw [Qct e h.1]
 simp only [Rs.bind, Qew, Qna, Rs.map]
theorem Qms {op cl : Txt} (hcl : cl ≠ [44]) (hcn : cl ≠ []) {xs : List Fld} (hm : xs.length ≤ 8) (h : ∀ f ∈ xs, WfF f) (r : List Tok) (i : Nat) : ∃ ys, encl e op cl (fieldP e) (sg op :: (joinK [44] (xs.map fdK) ++ sg cl :: r)) i = .ok ys r i ∧ All2 (fun a b => eqFd a b = true) ys xs :=
 Qoq e (K := fdK) (Fol := fun _ => True) (fun _ => trivial) (fun _ => trivial) hcl hm (fun _ _ _ => show ([] : Txt) ≠ cl from fun e => hcn e.symm) (fun y hy r i _ => ⟨y, Jai e (h y hy) r i, Qid y⟩) r i
theorem ctor_ok {x : Ctr} (h : WfCt x) (r : List Tok) (i : Nat) : ∃ x', ctorP e (ctK x ++ r) i = .ok x' r i ∧ eqCt x' x = true := by
 obtain ⟨ys, h1, h2⟩ := Qms e (op := [123]) (cl := [125]) (by decide) (by decide) h.2.1 h.2.2 r i
 have ek : ctK x ++ r = nmK x.name :: sg [123] :: (joinK [44] (x.fields.map fdK) ++ sg [125] :: r) := by simp [ctK]
 refine ⟨⟨x.name, ys⟩, ?_, by unfold eqCt; rw [h2.eqL]; simp⟩
 rw [ek]
 unfold ctorP
 rw [Qct e h.1]
 simp only [Rs.bind, h1, Rs.map]
def Nx (l : List Tok) : Prop := sgn e l ≠ [124] ∧ sgn e l ≠ [40] ∧ ((ahd e 0 l).kind = 1 → callN e l = true)
theorem nx_nil : Nx e [] := ⟨show ([] : Txt) ≠ [124] by decide, show ([] : Txt) ≠ [40] by decide, fun h => absurd (show (0 : Int) = 1 from h) (by decide)⟩
theorem Qxr {s : Txt} (h1 : s ≠ [124]) (h2 : s ≠ [40]) (l : List Tok) : Nx e (sg s :: l) := ⟨h1, h2, fun h => absurd (show (4 : Int) = 1 from h) (by decide)⟩
theorem nx_am (x : Atm) (l : List Tok) : Nx e (amK x ++ l) := ⟨show ([] : Txt) ≠ [124] by decide, show ([] : Txt) ≠ [40] by decide, fun _ => rfl⟩
theorem type_ok {x : Typ} (h : WfT x) (r : List Tok) (i : Nat) (hr : Nx e r) : ∃ x', typeP e (tyK x ++ r) i = .ok x' r i ∧ eqTy x' x = true := by
 rcases h.2 with ⟨hs, hc⟩ | ⟨hs, hn, hm, hc⟩
 ·
  have ek : tyK x ++ r = sg [46, 116, 121, 112, 101] :: nmK x.name :: sg [60, 58] :: nmK x.sub :: r := by simp [tyK, hs.ne]
  refine ⟨⟨x.name, x.sub, [], 0⟩, ?_, by unfold eqTy; rw [hc]; simp [eqL]⟩
  rw [ek]
  unfold typeP
  show (wordQ e (nmK x.name :: sg [60, 58] :: nmK x.sub :: r) i).bind _ = _
  rw [Qct e h.1]
  simp only [Rs.bind]
  rw [Qea e (by decide)]
  simp only
  rw [if_pos trivial, Qna]
  rfl
 obtain ⟨ys, h1, h2⟩ := Qlh e (sep := [124]) (most := noMost) (part := ctorP e) (rel := fun a b => eqCt a b = true) (K := ctK) (Fol := fun _ => True) (fun _ => trivial) (rest := r) trivial hr.1 hn hm (fun y hy r i _ => ctor_ok e (hc y hy) r i) i
 have ek : tyK x ++ r = sg [46, 116, 121, 112, 101] :: nmK x.name :: sg [61] :: (joinK [124] (x.ctors.map ctK) ++ r) := by simp [tyK, hs]
 refine ⟨⟨x.name, [], ys, 0⟩, ?_, by unfold eqTy; rw [h2.eqL, hs]; simp⟩
 rw [ek]
 unfold typeP
 show (wordQ e (nmK x.name :: sg [61] :: (joinK [124] (x.ctors.map ctK) ++ r)) i).bind _ = _
 rw [Qct e h.1]
 simp only [Rs.bind]
 rw [Qea e (by decide)]
 simp only
 rw [if_neg (by decide), h1]
 rfl
theorem Qhn (f : Nat) (a b : Bool) {r : List Tok} (i : Nat) (hr : Nx e r) : flagL e f a b r i = .ok (a, b) r i := by
 cases f with
 | zero => rfl
 | succ f =>
  rw [flagL, if_neg]
  rintro ⟨h1, h2⟩
  rw [hr.2.2 h1] at h2
  cases h2
theorem Qld (f : Nat) (a b : Bool) {r : List Tok} (i : Nat) (hr : sgn e r ≠ [40]) : flagL e (f + 1) a b (nmK wIn :: r) i = flagL e f true b r i ∧ flagL e (f + 1) a b (nmK wOut :: r) i = flagL e f a true r i := by
 have hc : ∀ s, callN e (nmK s :: r) = false := fun s => by
  unfold callN
  rw [show ahd e 1 (nmK s :: r) = ahd e 0 r from rfl]
  by_cases h4 : (ahd e 0 r).kind = 4
  · rw [decide_eq_false (show ¬ (ahd e 0 r).text = [40] from fun h => hr (by unfold sgn; rw [if_pos h4]; exact h)), Bool.and_false]
  · rw [decide_eq_false h4, Bool.and_false]; rfl
 constructor
 · rw [flagL, if_pos ⟨rfl, hc _⟩, if_pos (show (ahd e 0 (nmK wIn :: r)).text = wIn from rfl)]; rfl
 · rw [flagL, if_pos ⟨rfl, hc _⟩, if_neg (show ¬ (ahd e 0 (nmK wOut :: r)).text = wIn from show ¬ wOut = wIn by decide), if_pos (show (ahd e 0 (nmK wOut :: r)).text = wOut from rfl)]; rfl
theorem Jaj (a b : Bool) {r : List Tok} (f i : Nat) (hr : Nx e r) (hf : (if a then 1 else 0) + (if b then 1 else 0) ≤ f) : flagL e f false false ((if a then [nmK wIn] else []) ++ ((if b then [nmK wOut] else []) ++ r)) i = .ok (a, b) r i := by
 cases a
 ·
  cases b with
  | true =>
   obtain ⟨f, rfl⟩ : ∃ f', f = f' + 1 := ⟨f - 1, by simp at hf; omega⟩
   show flagL e (f + 1) false false (nmK wOut :: r) i = _
   rw [(Qld e f false false i hr.2.1).2, Qhn e f false true i hr]
  | false => exact Qhn e f false false i hr
 cases b
 ·
  obtain ⟨f, rfl⟩ : ∃ f', f = f' + 1 := ⟨f - 1, by simp at hf; omega⟩
  show flagL e (f + 1) false false (nmK wIn :: r) i = _
  rw [(Qld e f false false i hr.2.1).1, Qhn e f true false i hr]
 obtain ⟨f, rfl⟩ : ∃ f', f = f' + 1 + 1 := ⟨f - 2, by simp at hf; omega⟩
 show flagL e (f + 1 + 1) false false (nmK wIn :: nmK wOut :: r) i = _
 rw [(Qld e (f + 1) false false i (show sgn e (nmK wOut :: r) ≠ [40] from show ([] : Txt) ≠ [40] by decide)).1, (Qld e f true false i hr.2.1).2, Qhn e f true true i hr]
theorem decl_ok {x : Dcl} (h : WfD x) (r : List Tok) (i : Nat) (hr : Nx e r) : ∃ x', declP e (dcK x ++ r) i = .ok x' r i ∧ eqDc x' x = true := by
 obtain ⟨ys, h1, h2⟩ := Qms e (op := [40]) (cl := [41]) (by decide) (by decide) h.2.1 h.2.2 ((if x.input then [nmK wIn] else []) ++ ((if x.output then [nmK wOut] else []) ++ r)) i
 have ek : dcK x ++ r = sg [46, 100, 101, 99, 108] :: nmK x.name :: sg [40] :: (joinK [44] (x.cols.map fdK) ++ sg [41] :: ((if x.input then [nmK wIn] else []) ++ ((if x.output then [nmK wOut] else []) ++ r))) := by simp [dcK]
 refine ⟨⟨x.name, ys, x.input, x.output, 0⟩, ?_, by unfold eqDc; rw [h2.eqL]; simp⟩
 rw [ek]
 unfold declP
 show (wordQ e (nmK x.name :: sg [40] :: (joinK [44] (x.cols.map fdK) ++ sg [41] :: ((if x.input then [nmK wIn] else []) ++ ((if x.output then [nmK wOut] else []) ++ r)))) i).bind _ = _
 rw [Qct e h.1]
 simp only [Rs.bind, h1]
 rw [Jaj e x.input x.output _ i hr (by cases x.input <;> cases x.output <;> simp)]
 rfl
theorem init_ok {x : Ini} (h : WfI x) (r : List Tok) (i : Nat) : ∃ x', initP e (inK x ++ r) i = .ok x' r i ∧ eqIn x' x = true := by
 refine ⟨⟨x.name, x.comp, 0⟩, ?_, by unfold eqIn; simp⟩
 show initP e (sg [46, 105, 110, 105, 116] :: nmK x.name :: sg [61] :: nmK x.comp :: r) i = _
 unfold initP
 show (wordQ e (nmK x.name :: sg [61] :: nmK x.comp :: r) i).bind _ = _
 rw [Qct e h.1]
 simp only [Rs.bind, Qew, Qna, Rs.map]
 rfl
end
end
end Go.Proofs.YtccehgfecaamoaaGreatDoor
