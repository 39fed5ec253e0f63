/- What a law of lex finds in the world; the law's own probe answers true. Walk of the law that tokens rise. syn: Parse. show's writer: what it holds; a text is added. -/
import Derived.Test.YtccehgfecaamoaaGreatDoorQa21
import Derived.Test.YtccehgfecaamoaaGreatDoorQa06
import Derived.Shelf.Strings.BuilderK
import Derived.Lib.AppendIntMem
set_option maxRecDepth 100000
set_option maxHeartbeats 32000000
namespace Go.Proofs.YtccehgfecaamoaaGreatDoor
section
open Go.ChangeShapes Go.WideShapes Go.ChangeAt Go.WideMaps Go.WideElems Go.RowKit
theorem gHeads : Tryz.prog.globalNamed "vestry/lex.heads" = some 0 := by kernel_rfl
theorem tHeads : (Tryz.prog.globals[0]?).map (·.type) = some 174 := by kernel_rfl
theorem gSigns : Tryz.prog.globalNamed "vestry/lex.signs" = some 1 := by kernel_rfl
theorem tSigns : (Tryz.prog.globals[1]?).map (·.type) = some 177 := by kernel_rfl
theorem gRange : Tryz.prog.globalNamed "strconv.ErrRange" = some 4 := by kernel_rfl
theorem tRange : (Tryz.prog.globals[4]?).map (·.type) = some 167 := by kernel_rfl
theorem cellsA : Tryz.prog.cellsOf 174 = 4 := by kernel_rfl
theorem cellsB : Tryz.prog.cellsOf 177 = 23 := by kernel_rfl
theorem cells9 : Tryz.prog.cellsOf 9 = 1 := by kernel_rfl
theorem starred : "*" ++ "errors.errorString" = "*errors.errorString" := by decide
theorem rowE (u : TypeId) (h : Tryz.prog.typeName? 3 u = some "*errors.errorString") : u = 232 :=
 typeName_ptr_named (nm := "errors.errorString") (by rw [starred]; kernel_rfl) (by kernel_rfl) (by decide) u (by rw [starred]; exact h)
theorem cellsE : Tryz.prog.cellsOf 234 = 1 := by kernel_rfl

theorem Qre {W : World} {name : String} {g : Nat} {t : TypeId} {n : Nat} {zs : List Txt} {rest : List (String × DataW Unit)} (hg : Tryz.prog.globalNamed name = some g) (hty : (Tryz.prog.globals[g]?).map (·.type) = some t)
  (ht : Tryz.prog.underlying t = some (.array n 9)) (hct : Tryz.prog.cellsOf t = n) (h : laidMet Tryz.prog ((name, .agg (zs.map fun z => .lit (.string z))) :: rest) W) :
  ∀ (i : Nat) (x : Txt), zs[i]? = some x → W.cell? ⟨g, i, none⟩ = some (str x) := by
 obtain ⟨ps, ⟨g', t', cs, fuel, p, q, hg', ht', hvar, hd, _, _⟩, _⟩ := h
 obtain rfl := Option.some.inj (hg.symm.trans hg')
 obtain rfl := Option.some.inj (hty.symm.trans ht')
 have hcs := Qhe ht Tryz.underlying9 cells9 hct hd
 intro i x hx
 have := World.var?_cell hg hvar i
 rw [this, ← Array.getElem?_toList, hcs, List.getElem?_map, hx]
 rfl

theorem env_of {W : World} (h : laidMetH Tryz.prog Rows.showAgainRow.laid W) (hsh : W.ShapedOpen Tryz.prog) : Env W := by
 rw [MakeChecks.laidMetH_plain _ _ _ (by kernel_rfl)] at h
 have h3 : laidMet Tryz.prog (("strconv.ErrRange", Rows.laid_strconv_ErrRange) :: [("strconv.ErrSyntax", Rows.laid_strconv_ErrSyntax), ("vestry/lex.heads", Rows.laid_vestry_lex_heads), ("vestry/lex.signs", Rows.laid_vestry_lex_signs)]) W := laidMet.tail (laidMet.tail (laidMet.tail h))
 have h5 : laidMet Tryz.prog (("vestry/lex.heads", Rows.laid_vestry_lex_heads) :: [("vestry/lex.signs", Rows.laid_vestry_lex_signs)]) W := laidMet.tail (laidMet.tail h3)
 have h6 : laidMet Tryz.prog (("vestry/lex.signs", Rows.laid_vestry_lex_signs) :: []) W := laidMet.tail h5
 obtain ⟨a0, s0, hv0, -, -, -⟩ := laid_sentinel h3 gRange tRange Tryz.underlying167 rowE Tryz.underlying232 Tryz.underlying234 rfl rfl Tryz.underlying9 cellsE cells9
 refine ⟨⟨?_, ?_⟩, Tryz.laysM143.s1_3 W hsh, ⟨_, _, hv0⟩⟩
 · exact Qre (zs := hds) gHeads tHeads Tryz.underlying174 cellsA h5
 · exact Qre (zs := sgs) gSigns tSigns Tryz.underlying177 cellsB h6

theorem doorL (os : Os) (args : Array Value) : laidMetH Tryz.prog Rows.showAgainRow.laid ((World.doorLaid Tryz.prog 72 os).forCall (fun _ _ => 0) ⟨#[], args, []⟩).memory :=
 laidMetH_of_parts3 (fuel := 8) (laidMet_of_run' 8 (by kernel_rfl) (by kernel_rfl)) (by kernel_rfl) (by kernel_rfl)

def five : List Tok := [⟨1, [100, 46, 112, 97, 116, 104], 0, 0⟩, ⟨4, [40], 0, 6⟩, ⟨2, [], 1, 7⟩, ⟨4, [41], 0, 8⟩, ⟨4, [46], 0, 9⟩]
structure RowAt (w : World) (g cap : Nat) (toks : List Tok) : Prop where
 lt : g < w.heap.size
 le : toks.length ≤ cap
 cm : cap ≤ maxLen
 cells : ∀ (i : Nat) (t : Tok), toks[i]? = some t → w.cell? ⟨g, i * 4, none⟩ = some (.int .i64 t.kind) ∧ w.cell? ⟨g, i * 4 + 1, none⟩ = some (str t.text) ∧ w.cell? ⟨g, i * 4 + 2, none⟩ = some (.int .i64 t.num) ∧ w.cell? ⟨g, i * 4 + 3, none⟩ = some (.int .i64 (t.at_ : Int))
theorem RowAt.later {w w' : World} {g cap : Nat} {toks : List Tok} (h : RowAt w g cap toks) (hb : Below w.heap.size w w') : RowAt w' g cap toks :=
 ⟨Nat.lt_of_lt_of_le h.lt hb.size, h.le, h.cm, fun i t ht => by
  have := h.cells i t ht
  rw [← hb.cell (p := ⟨g, i * 4, none⟩) h.lt, ← hb.cell (p := ⟨g, i * 4 + 1, none⟩) h.lt, ← hb.cell (p := ⟨g, i * 4 + 2, none⟩) h.lt, ← hb.cell (p := ⟨g, i * 4 + 3, none⟩) h.lt] at this
  exact this⟩
theorem Qgb : ∀ (l : List Tok) (i : Nat) (t : Tok), l[i]? = some t → ∀ q, q < 4 → (tokCells l)[i * 4 + q]? = (tokVals t)[q]?
 | [], i, t, h => by simp at h
 | x :: l, 0, t, h => fun q hq => by
  simp at h; subst h
  have : tokCells (x :: l) = tokVals x ++ tokCells l := rfl
  rw [this, Nat.zero_mul, Nat.zero_add, List.getElem?_append_left (by simpa [tokVals] using hq)]
 | x :: l, i + 1, t, h => fun q hq => by
  have : tokCells (x :: l) = tokVals x ++ tokCells l := rfl
  have e : (tokVals x).length = 4 := rfl
  rw [this, List.getElem?_append_right (by rw [e]; omega), e, show (i + 1) * 4 + q - 4 = i * 4 + q by omega]
  exact Qgb l i t (by simpa using h) q hq
theorem Qus {w : World} {B : Nat} {v : Value} {toks : List Tok} (h : w.ownsRow B 83 4 v toks.length (tokCells toks)) :
  (v = .slice none 0 0 ∧ toks = []) ∨ ∃ g cap, v = .slice (some ⟨g, 0, none⟩) toks.length cap ∧ RowAt w g cap toks := by
 rcases h.2 with ⟨h1, h2⟩ | ⟨g, cap, cur, hv, hg, hh, hle, hcm, hcs, ht⟩
 · exact .inl ⟨h1, List.eq_nil_of_length_eq_zero h2⟩
 refine .inr ⟨g, cap, hv, (Array.getElem?_eq_some_iff.1 hh).1, hle, hcm, fun i t hi => ?_⟩
 have hlen : i < toks.length := (List.getElem?_eq_some_iff.1 hi).1
 have key : ∀ q v, q < 4 → (tokVals t)[q]? = some v → w.cell? ⟨g, i * 4 + q, none⟩ = some v := fun q v hq hv => by
  rw [Lib.cell_of_heap hh, ← Array.getElem?_toList]
  have h1 : (cur.toList.take (toks.length * 4))[i * 4 + q]? = (tokCells toks)[i * 4 + q]? := by rw [ht]
  rw [List.getElem?_take, if_pos (by omega)] at h1
  rw [h1, Qgb toks i t hi q hq, hv]
 exact ⟨key 0 _ (by omega) rfl, key 1 _ (by omega) rfl, key 2 _ (by omega) rfl, key 3 _ (by omega) rfl⟩
end
section
open Go.RowKit
def Ris (k n : Nat) : List Tok → Prop
 | [] => True
 | t :: l => k ≤ t.at_ ∧ t.at_ < n ∧ Ris (t.at_ + 1) n l
theorem Ris.mono {n : Nat} : ∀ {l : List Tok} {k j : Nat}, j ≤ k → Ris k n l → Ris j n l
 | [], _, _, _, _ => trivial
 | _ :: _, _, _, h, hr => ⟨Nat.le_trans h hr.1, hr.2⟩
theorem Qsy : ∀ (m : Nat) (r : Txt) (k : Nat), r.length ≤ m → match scan k r with | .ok l => Ris k (k + r.length) l | .bad why a => why ≠ 0 ∧ a ≤ k + r.length := by
 intro m
 induction m with
 | zero =>
  intro r k h
  have : r = [] := List.eq_nil_of_length_eq_zero (by omega)
  subst this
  rw [Qda]; trivial
 | succ m ih =>
  intro r k h
  by_cases h0 : r = []
  · subst h0; rw [Qda]; trivial
  cases hg : gapAt r with
  | never => rw [Qdj hg]; exact ⟨by decide, by omega⟩
  | gap n =>
   have hp := Qek hg
   have := ih (r.drop n) (k + n) (by rw [List.length_drop]; omega)
   rw [Qfb hg]
   rw [List.length_drop, show k + n + (r.length - n) = k + r.length by omega] at this
   cases hs : scan (k + n) (r.drop n) with
   | ok l => rw [hs] at this; exact Ris.mono (by omega) this
   | bad w a => rw [hs] at this; exact this
  | none =>
   cases ht : tokAt r with
   | bad w o =>
    rw [Qfa h0 hg ht]
    have := Qrg ht
    exact ⟨this.1, by omega⟩
   | tok kd tx nm n =>
    have hp := Qeo ht
    have := ih (r.drop n) (k + n) (by rw [List.length_drop]; omega)
    rw [Qfc hg ht]
    rw [List.length_drop, show k + n + (r.length - n) = k + r.length by omega] at this
    cases hs : scan (k + n) (r.drop n) with
    | ok l => rw [hs] at this; exact ⟨Nat.le_refl _, by show k < _; omega, Ris.mono (by show k + 1 ≤ _; omega) this⟩
    | bad w a => rw [hs] at this; exact this
theorem Qjy (l : Txt) : match lexP l with | .ok t => Ris 0 l.length t | .bad why a => why ≠ 0 ∧ a ≤ l.length := by
 unfold lexP
 by_cases h : 65536 < l.length
 · rw [if_pos h]; exact ⟨by decide, Nat.zero_le _⟩
 rw [if_neg h]
 have := Qsy l.length l 0 (Nat.le_refl _)
 rwa [Nat.zero_add] at this
theorem Qng (s : ByteArray) (hs : s.size ≤ 281474976710656) (w : World) (hE : Env w) :
  Calls Tryz.prog 11 #[.string s] w fun e w' => TokAns (lexP s.data.toList) w w' e := by
 by_cases h : 65536 < s.size
 · exact Qkk s h hs w
 · exact Qnh s (by omega) w hE

def RsRel (n : Nat) (toks : List Tok) (w : World) (g cap : Nat) (a i : Value) (wr : World) : Prop :=
 ∃ (j lo : Nat), i = .int .i64 (j : Int) ∧ a = .int .i64 ((lo : Int) - 1) ∧ j ≤ toks.length ∧ lo ≤ n ∧ Hid (Below w.heap.size w wr ∧ RowAt wr g cap toks ∧ Ris lo n (toks.drop j))

attribute [local go_sem ↓] Qgr Qiv
end
section
open Go.RowKit Go.Maps
def TkOk (t : Tok) : Prop := 1 ≤ t.kind ∧ t.kind ≤ 4 ∧ 0 ≤ t.num ∧ t.num ≤ 9223372036854775807
theorem tok_ok {r : Txt} {kd : Int} {tx : Txt} {nm : Int} {n : Nat} (h : tokAt r = .tok kd tx nm n) : 1 ≤ kd ∧ kd ≤ 4 ∧ 0 ≤ nm ∧ nm ≤ 9223372036854775807 := by
 cases r with
 | nil => simp [tokAt] at h
 | cons c t =>
  rw [Qef] at h
  split at h
  ·
   unfold nmRes at h
   split at h
   · cases h
   · cases h; decide
  split at h
  ·
   unfold dgRes at h
   split at h
   · cases h
   split at h
   · cases h
   · cases h; exact ⟨by decide, by decide, by omega, by omega⟩
  split at h
  ·
   unfold txRes at h
   cases ht : txScan t with
   | ok v m => rw [ht] at h; cases h; decide
   | bad o => rw [ht] at h; cases h
   | never => rw [ht] at h; cases h
  unfold sgRes at h
  split at h
  · cases h
  · cases h; decide
theorem scan_ok : ∀ (m : Nat) (r : Txt) (k : Nat), r.length ≤ m → ∀ l, scan k r = .ok l → l.length ≤ r.length ∧ ∀ t ∈ l, TkOk t := by
 intro m
 induction m with
 | zero =>
  intro r k h l hl
  have : r = [] := List.eq_nil_of_length_eq_zero (by omega)
  subst this
  rw [Qda] at hl
  cases hl
  exact ⟨Nat.le_refl _, fun t ht => by cases ht⟩
 | succ m ih =>
  intro r k h l hl
  by_cases h0 : r = []
  · subst h0; rw [Qda] at hl; cases hl; exact ⟨Nat.le_refl _, fun t ht => by cases ht⟩
  cases hg : gapAt r with
  | never => rw [Qdj hg] at hl; cases hl
  | gap n =>
   have hp := Qek hg
   rw [Qfb hg] at hl
   obtain ⟨g1, g2⟩ := ih (r.drop n) (k + n) (by rw [List.length_drop]; omega) l hl
   rw [List.length_drop] at g1
   exact ⟨by omega, g2⟩
  | none =>
   cases ht : tokAt r with
   | bad w o => rw [Qfa h0 hg ht] at hl; cases hl
   | tok kd tx nm n =>
    have hp := Qeo ht
    rw [Qfc hg ht] at hl
    cases hs : scan (k + n) (r.drop n) with
    | bad w a => rw [hs] at hl; cases hl
    | ok l1 =>
     rw [hs] at hl
     cases hl
     obtain ⟨g1, g2⟩ := ih (r.drop n) (k + n) (by rw [List.length_drop]; omega) l1 hs
     rw [List.length_drop] at g1
     refine ⟨by simp only [List.length_cons]; omega, fun t htm => ?_⟩
     rcases List.mem_cons.1 htm with rfl | h2
     · exact tok_ok ht
     · exact g2 t h2
theorem Qpp {s : Txt} {l : List Tok} (h : lexP s = .ok l) : s.length ≤ 65536 ∧ l.length ≤ s.length ∧ ∀ t ∈ l, TkOk t := by
 unfold lexP at h
 split at h
 · cases h
 obtain ⟨g1, g2⟩ := scan_ok s.length s 0 (Nat.le_refl _) l h
 exact ⟨by omega, g1, g2⟩
theorem Ris.at {n : Nat} : ∀ {l : List Tok} {k : Nat}, Ris k n l → ∀ t ∈ l, t.at_ < n
 | [], _, _, t, ht => by cases ht
 | x :: l, _, h, t, ht => by
  rcases List.mem_cons.1 ht with rfl | h2
  · exact h.2.1
  · exact h.2.2.at t h2
def parseP (s : Txt) : Rs Pg := match lexP s with
 | .bad why a => .bad why a []
 | .ok toks => progD s.length 32 true toks 0
def PsA (w : World) (r : Rs Pg) (en : Ending) (w' : World) : Prop := match r with
 | .bad why at_ _ => en = .returned (.tuple #[.agg #[.slice none 0 0, .slice none 0 0, .slice none 0 0, .slice none 0 0, .slice none 0 0], .agg #[.int .i64 why, .int .i64 at_]]) ∧ Below w.heap.size w w'
 | .ok p _ _ => ∃ v, en = .returned (.tuple #[v, .agg #[.int .i64 0, .int .i64 0]]) ∧ VPg (fun b => w.heap.size ≤ b) w' v p ∧ Below w.heap.size w w'
theorem Kp.bel {rb : Nat} {w w' : World} (h : Kp rb w w') {B : Nat} (h1 : B ≤ rb) (h2 : B ≤ w.heap.size) : Below B w w' := h.below h2 h1
theorem rd_new {w : World} {v : Value} {toks : List Tok} {B e : Nat} (ho : w.ownsRow B 83 4 v toks.length (tokCells toks)) (hk : ∀ t ∈ toks, TkOk t ∧ t.at_ ≤ 65536) (hl : toks.length ≤ 65536) (he : e ≤ 65536) : Rd w.heap.size e (w.alloc (.cells #[v, .int .i64 (e : Int), .int .i64 0, .int .i64 0] 49)) toks 0 0 := by
 refine ⟨⟨v, heap_alloc_new w _, ?_⟩, fun t ht => ?_, hl, he⟩
 ·
  rcases Qus ho with ⟨rfl, rfl⟩ | ⟨g, cap, rfl, hr⟩
  · exact ⟨none, 0, rfl, Nat.le_refl _, Nat.zero_le _, fun j t hj => by simp at hj⟩
  refine ⟨some ⟨g, 0, none⟩, cap, rfl, hr.le, hr.cm, fun j t hj => ⟨g, 0, rfl, hr.lt, ?_⟩⟩
  obtain ⟨c0, c1, c2, c3⟩ := hr.cells j t hj
  rw [Nat.zero_add]
  exact TokAt.same (w := w) ⟨c0, c1, c2, c3⟩ (Below.heap_alloc _ _ _ hr.lt)
 obtain ⟨⟨h1, h2, h3, h4⟩, h5⟩ := hk t ht
 exact ⟨by omega, h2, h3, h4, h5⟩
theorem Qsp (s : ByteArray) (hs : s.size ≤ 281474976710656) (w : World) (hE : Env w) (hrd0 : ∀ rb w toks, lexP s.data.toList = .ok toks → Rd rb s.size w toks 0 0 → Calls Tryz.prog 12 #[.pointer (some ⟨rb, 0, none⟩)] w fun en w' => RdAns rb w (progD s.size 32 true toks 0) en w') :
  Calls Tryz.prog 5 #[.string s] w fun en w' => PsA w (parseP s.data.toList) en w' := by
 obtain ⟨w2, hw2⟩ : ∃ w2, w2 = (w.alloc pgZ).alloc ftZ := ⟨_, rfl⟩
 have b2 : Below w.heap.size w w2 := by rw [hw2]; exact ((Below.refl _ w).alloc (Nat.le_refl _) _).alloc (by simp) _
 have s2 : w2.heap.size = w.heap.size + 2 := by rw [hw2]; simp
 have p2 : w2.heap[w.heap.size]? = some pgZ := by rw [hw2, Below.heap_alloc _ _ _ (by simp)]; exact heap_alloc_new w _
 have f2 : w2.heap[w.heap.size + 1]? = some ftZ := by
  rw [hw2]
  have := heap_alloc_new (w.alloc pgZ) ftZ
  simpa using this
 have htk := Qng s hs w2 (hE.later b2)
 have HW2 : Hid (w2 = (w.alloc (.cells #[.slice none 0 0, .slice none 0 0, .slice none 0 0, .slice none 0 0, .slice none 0 0] 28)).alloc (.cells #[.int .i64 0, .int .i64 0] 31)) := hw2
 have K2 := hide (Ya b2 (Ya p2 (Ya f2 s2)))
 obtain ⟨PO, hPO⟩ : ∃ PO : Ending → World → Prop, PO = fun en w' => PsA w (parseP s.data.toList) en w' := ⟨_, rfl⟩
 rw [← hPO]
 have HPO := hide hPO
 have hri := Qjy s.data.toList
 have hsz : s.data.toList.length = s.size := (Qbb s).symm
 clear b2 s2 p2 f2 hw2 hPO hE
 cases hq : lexP s.data.toList with
 | bad why at1 =>
  rw [hq] at htk hri
  clear hrd0
  have HE : Hid (PO = fun en w' => PsA w (.bad why (at1 : Int) []) en w') := by
   have h0 := Qa HPO
   unfold parseP at h0
   rw [hq] at h0
   exact h0
  have hz : (why != 0) = true := bne_iff_ne.2 hri.1
  clear hq HPO hri hsz
  go_enter Tryz.func5, Tryz.ntmps5
  go_wp2_with fail
  rw [← Qa HW2]
  refine htk.mono ?_
  clear htk HW2
  rintro en w3 ⟨v, rfl, hown, b3⟩
  obtain ⟨b2, p2, f2, s2⟩ := Qa K2
  have hs3 := b3.size
  obtain ⟨w4, hw4⟩ : ∃ w4, w4 = w3.alloc (.cells #[.int .i64 why, .int .i64 (at1 : Int)] 31) := ⟨_, rfl⟩
  have n4 : w4.heap[w3.heap.size]? = some (.cells #[.int .i64 why, .int .i64 (at1 : Int)] 31 (0, 0)) := by rw [hw4]; exact heap_alloc_new w3 _
  have b4 : Below w2.heap.size w2 w4 := by rw [hw4]; exact b3.alloc b3.size _
  have p4 := (b4.block _ (Qaf p2)).trans p2
  have f4 := (b4.block _ (Qaf f2)).trans f2
  have b04 : Below w.heap.size w w4 := b2.trans (b4.mono (by omega))
  have hs4 := b4.size
  obtain ⟨x0, x1, x2, x3, x4, xf⟩ := cl5 p4
  obtain ⟨c0, c1, cf⟩ := cl2 n4
  obtain ⟨w5, hw5⟩ : ∃ w5, w5 = (((((w4.setCell ⟨w.heap.size, 0, none⟩ (.slice none 0 0)).setCell ⟨w.heap.size, 1, none⟩ (.slice none 0 0)).setCell ⟨w.heap.size, 2, none⟩ (.slice none 0 0)).setCell ⟨w.heap.size, 3, none⟩ (.slice none 0 0)).setCell ⟨w.heap.size, 4, none⟩ (.slice none 0 0)).drew := ⟨_, rfl⟩
  have ho5 : ∀ k, k ≠ w.heap.size → w5.heap[k]? = w4.heap[k]? := fun k hk => by
   rw [hw5, show ∀ v : World, v.drew.heap = v.heap from fun _ => rfl, hpS hk, hpS hk, hpS hk, hpS hk, hpS hk]
  have p5 : w5.heap[w.heap.size]? = some pgZ := by
   rw [hw5]
   exact (Qac (Qac (Qac (Qac (Qac p4 0 _) 1 _) 2 _) 3 _) 4 _).trans rfl
  have f5 := (ho5 (w.heap.size + 1) (by omega)).trans f4
  have n5 := (ho5 w3.heap.size (by omega)).trans n4
  obtain ⟨y0, y1, yf⟩ := cl2 f5
  have b05 : Below w.heap.size w w5 := by rw [hw5]; exact (((((b04.setCell (p := ⟨w.heap.size, 0, none⟩) (Nat.le_refl _) _).setCell (p := ⟨w.heap.size, 1, none⟩) (Nat.le_refl _) _).setCell (p := ⟨w.heap.size, 2, none⟩) (Nat.le_refl _) _).setCell (p := ⟨w.heap.size, 3, none⟩) (Nat.le_refl _) _).setCell (p := ⟨w.heap.size, 4, none⟩) (Nat.le_refl _) _).drew
  obtain ⟨w7, hw7⟩ : ∃ w7, w7 = (w5.setCell ⟨w.heap.size + 1, 0, none⟩ (.int .i64 why)).setCell ⟨w.heap.size + 1, 1, none⟩ (.int .i64 (at1 : Int)) := ⟨_, rfl⟩
  have ho7 : ∀ k, k ≠ w.heap.size + 1 → w7.heap[k]? = w5.heap[k]? := fun k hk => by rw [hw7, hpS hk, hpS hk]
  have f7 : w7.heap[w.heap.size + 1]? = some (.cells #[.int .i64 why, .int .i64 (at1 : Int)] 31 (0, 0)) := by rw [hw7]; exact (Qac (Qac f5 0 _) 1 _).trans rfl
  have p7 := (ho7 w.heap.size (by omega)).trans p5
  have n7 := (ho7 w3.heap.size (by omega)).trans n5
  have b07 : Below w.heap.size w w7 := by rw [hw7]; exact (b05.setCell (p := ⟨w.heap.size + 1, 0, none⟩) (by show w.heap.size ≤ w.heap.size + 1; omega) _).setCell (p := ⟨w.heap.size + 1, 1, none⟩) (by show w.heap.size ≤ w.heap.size + 1; omega) _
  have HN := hide (Ya n4 (Ya n5 n7))
  have HU := hide (Ya p7 (Ya f7 b07))
  have HW4 := hide hw4
  have HW5 := hide hw5
  have HW7 := hide hw7
  clear hown b3 b2 p2 f2 s2 hs3 hw4 n4 b4 p4 f4 b04 hs4 hw5 ho5 p5 f5 n5 b05 hw7 ho7 f7 p7 n7 b07 K2
  simp only [Out.why, Out.fa]
  go_wp2_with fail
  rw [← Qa HW4]
  clear HW4
  go_wp2_with fail
  refine Qfu (m := 3) (ml := [(0, 1), (1, 1), (2, 0), (3, 0)]) (fun _ w' => w'.heap[w3.heap.size]? = some (.cells #[.int .i64 why, .int .i64 (at1 : Int)] 31 (0, 0))) mixedO (by kernel_rfl) rfl (by rfl) (by kernel_rfl) (fun PP hPP => ?_)
  refine Qab rfl (by kernel_rfl) (fun _ _ _ => by go_simp <;> rfl) ?_
  refine Qab rfl (by kernel_rfl) (fun f w' hw => by obtain ⟨u0, u1, uf⟩ := cl2 hw; go_simp <;> rfl) ?_
  refine Qad rfl (Qa HN).1 (fun K hK => ?_)
  go_simp
  rw [← Qa HW5]
  refine hK _ _ ?_
  clear hK K HW5 x0 x1 x2 x3 x4 xf
  refine Qad rfl (Qa HN).2.1 (fun K hK => ?_)
  go_simp
  rw [← Qa HW7]
  refine hK _ _ ?_
  clear hK K HW7 y0 y1 yf
  refine Qaz (Qa HN).2.2 (hPP _ _ ?_)
  clear hPP PP
  obtain ⟨p7, f7, b07⟩ := Qa HU
  obtain ⟨u0, u1, u2, u3, u4, uf⟩ := cl5 p7
  obtain ⟨t0, t1, tf⟩ := cl2 f7
  go_wp2_with fail
  refine bodyPost_ret (v := .tuple #[.agg #[.slice none 0 0, .slice none 0 0, .slice none 0 0, .slice none 0 0, .slice none 0 0], .agg #[.int .i64 why, .int .i64 (at1 : Int)]]) (by simp [results, Tryz.results5, go_sem, u0, u1, u2, u3, u4, t0, t1]) rfl ?_
  rw [Qa HE]
  exact ⟨rfl, b07⟩
 | ok toks =>
  rw [hq] at htk hri
  obtain ⟨g1, g2, g3⟩ := Qpp hq
  have HRD := hide (fun rb w h => hrd0 rb w toks hq h)
  clear hrd0
  have hat : ∀ t ∈ toks, TkOk t ∧ t.at_ ≤ 65536 := fun t ht => ⟨g3 t ht, by have := Ris.at hri t ht; omega⟩
  have HE : Hid (PO = fun en w' => PsA w (progD s.size 32 true toks 0) en w') := by
   have h0 := Qa HPO
   unfold parseP at h0
   rw [hq] at h0
   rw [← hsz]
   exact h0
  rw [hsz] at g1 g2
  have HT := hide (Ya hat (Ya g1 g2))
  clear hq HPO hri hsz hat g2 g3
  go_enter Tryz.func5, Tryz.ntmps5
  go_wp2_with fail
  rw [← Qa HW2]
  refine htk.mono ?_
  clear htk HW2
  rintro en w3 ⟨v, rfl, hown, b3⟩
  obtain ⟨b2, p2, f2, s2⟩ := Qa K2
  have hs3 := b3.size
  obtain ⟨hat, _, g2⟩ := Qa HT
  obtain ⟨w4, hw4⟩ : ∃ w4, w4 = w3.alloc ftZ := ⟨_, rfl⟩
  have n4 : w4.heap[w3.heap.size]? = some ftZ := by rw [hw4]; exact heap_alloc_new w3 _
  have b4 : Below w2.heap.size w2 w4 := by rw [hw4]; exact b3.alloc b3.size _
  have s4 : w4.heap.size = w3.heap.size + 1 := by rw [hw4]; simp
  have ho4 : w4.ownsRow w2.heap.size 83 4 v toks.length (tokCells toks) := by rw [hw4]; exact World.ownsRow.alloc hown _
  obtain ⟨w5, hw5⟩ : ∃ w5, w5 = w4.alloc (.cells #[v, .int .i64 (s.size : Int), .int .i64 0, .int .i64 0] 49) := ⟨_, rfl⟩
  have hR : Rd w4.heap.size s.size w5 toks 0 0 := by rw [hw5]; exact rd_new ho4 hat (by omega) g1
  have b5 : Below w2.heap.size w2 w5 := by rw [hw5]; exact b4.alloc b4.size _
  have s5 : w5.heap.size = w3.heap.size + 2 := by rw [hw5]; simp [s4]
  have p5 := (b5.block _ (Qaf p2)).trans p2
  have f5 := (b5.block _ (Qaf f2)).trans f2
  have b05 : Below w.heap.size w w5 := b2.trans (b5.mono (by omega))
  have hrd := Qa HRD _ _ hR
  have c0 : w4.cell? ⟨w3.heap.size, 0, none⟩ = some (.int .i64 0) := by rw [Qaa n4]; rfl
  obtain ⟨vs, vn, vc, ev⟩ : ∃ vs vn vc, v = .slice vs vn vc := by
   rcases Qus hown with ⟨e, _⟩ | ⟨g, cap, e, _⟩
   · exact ⟨_, _, _, e⟩
   · exact ⟨_, _, _, e⟩
  have hsl : s.size ≤ 65536 := g1
  have K5 := hide (Ya b05 (Ya p5 (Ya f5 (Ya (show w.heap.size + 2 ≤ w4.heap.size by omega) (show w4.heap.size < w5.heap.size by omega)))))
  have HW4 : Hid (w4 = w3.alloc (.cells #[.int .i64 0, .int .i64 0] 31)) := hw4
  rw [ev] at hw5
  have HW5 := hide hw5
  have HS4 := hide s4
  subst ev
  clear hown b3 b2 p2 f2 s2 hs3 hat g2 hw4 n4 b4 s4 ho4 hw5 hR b5 s5 p5 f5 b05 K2 g1
  simp only [Out.why, Out.fa]
  go_wp2_with fail
  rw [← Qa HW4]
  go_wp2_with fail
  rw [← Qa HW5, show w3.heap.size + 1 = w4.heap.size from (Qa HS4).symm]
  clear HW4 HW5 HS4 c0
  cases hq : progD s.size 32 true toks 0 with
  | bad why at1 l4 =>
   rw [hq] at hrd
   have HE2 : Hid (PO = fun en w' => PsA w (.bad why at1 l4) en w') := by
    have h0 := Qa HE
    rw [hq] at h0
    exact h0
   clear hq HE
   refine hrd.mono ?_
   clear hrd
   rintro en w6 ⟨rfl, k6⟩
   obtain ⟨b05, p5, f5, g4, g5⟩ := Qa K5
   have p6 := k6.keep p5 (by omega)
   have f6 := k6.keep f5 (by omega)
   have b06 : Below w.heap.size w w6 := b05.trans (k6.bel (by omega) b05.size)
   obtain ⟨x0, x1, x2, x3, x4, xf⟩ := cl5 p6
   obtain ⟨w7, hw7⟩ : ∃ w7, w7 = (((((w6.setCell ⟨w.heap.size, 0, none⟩ (.slice none 0 0)).setCell ⟨w.heap.size, 1, none⟩ (.slice none 0 0)).setCell ⟨w.heap.size, 2, none⟩ (.slice none 0 0)).setCell ⟨w.heap.size, 3, none⟩ (.slice none 0 0)).setCell ⟨w.heap.size, 4, none⟩ (.slice none 0 0)) := ⟨_, rfl⟩
   have f7 : w7.heap[w.heap.size + 1]? = some ftZ := by
    have hk : w.heap.size + 1 ≠ w.heap.size := by omega
    rw [hw7, hpS hk, hpS hk, hpS hk, hpS hk, hpS hk]; exact f6
   have p7 : w7.heap[w.heap.size]? = some pgZ := by rw [hw7]; exact (Qac (Qac (Qac (Qac (Qac p6 0 _) 1 _) 2 _) 3 _) 4 _).trans rfl
   have b07 : Below w.heap.size w w7 := by rw [hw7]; exact ((((b06.setCell (p := ⟨w.heap.size, 0, none⟩) (Nat.le_refl _) _).setCell (p := ⟨w.heap.size, 1, none⟩) (Nat.le_refl _) _).setCell (p := ⟨w.heap.size, 2, none⟩) (Nat.le_refl _) _).setCell (p := ⟨w.heap.size, 3, none⟩) (Nat.le_refl _) _).setCell (p := ⟨w.heap.size, 4, none⟩) (Nat.le_refl _) _
   obtain ⟨y0, y1, yf⟩ := cl2 f7
   obtain ⟨w9, hw9⟩ : ∃ w9, w9 = (w7.setCell ⟨w.heap.size + 1, 0, none⟩ (.int .i64 why)).setCell ⟨w.heap.size + 1, 1, none⟩ (.int .i64 at1) := ⟨_, rfl⟩
   have f9 : w9.heap[w.heap.size + 1]? = some (.cells #[.int .i64 why, .int .i64 at1] 31 (0, 0)) := by rw [hw9]; exact (Qac (Qac f7 0 _) 1 _).trans rfl
   have p9 : w9.heap[w.heap.size]? = some pgZ := by
    have hk : w.heap.size ≠ w.heap.size + 1 := by omega
    rw [hw9, hpS hk, hpS hk]; exact p7
   have b09 : Below w.heap.size w w9 := by rw [hw9]; exact (b07.setCell (p := ⟨w.heap.size + 1, 0, none⟩) (by show w.heap.size ≤ w.heap.size + 1; omega) _).setCell (p := ⟨w.heap.size + 1, 1, none⟩) (by show w.heap.size ≤ w.heap.size + 1; omega) _
   have HU := hide (Ya p9 (Ya f9 b09))
   have HW9 := hide hw9
   clear b05 p5 f5 g4 g5 p6 f6 b06 f7 p7 b07 hw9 f9 p9 b09 K5 k6
   subst hw7
   go_wp2_with fail
   rw [← Qa HW9]
   obtain ⟨p9, f9, b09⟩ := Qa HU
   obtain ⟨u0, u1, u2, u3, u4, uf⟩ := cl5 p9
   obtain ⟨t0, t1, tf⟩ := cl2 f9
   clear x0 x1 x2 x3 x4 xf y0 y1 yf HW9 HU
   refine bodyPost_ret (v := .tuple #[.agg #[.slice none 0 0, .slice none 0 0, .slice none 0 0, .slice none 0 0, .slice none 0 0], .agg #[.int .i64 why, .int .i64 at1]]) (by simp [results, Tryz.results5, go_sem, u0, u1, u2, u3, u4, t0, t1]) rfl ?_
   rw [Qa HE2]
   exact ⟨rfl, b09⟩
  | ok p l4 i4 =>
   rw [hq] at hrd
   have HE2 : Hid (PO = fun en w' => PsA w (.ok p l4 i4) en w') := by
    have h0 := Qa HE
    rw [hq] at h0
    exact h0
   clear hq HE
   refine hrd.mono ?_
   clear hrd
   rintro en w6 ⟨_, rfl, ⟨a0, m0, q0, a1, m1, q1, a2, m2, q2, a3, m3, q3, a4, m4, q4, rfl, hP⟩, k6⟩
   obtain ⟨b05, p5, f5, g4, g5⟩ := Qa K5
   have p6 := k6.keep p5 (by omega)
   have f6 := k6.keep f5 (by omega)
   have b06 : Below w.heap.size w w6 := b05.trans (k6.bel (by omega) b05.size)
   obtain ⟨x0, x1, x2, x3, x4, xf⟩ := cl5 p6
   obtain ⟨w7, hw7⟩ : ∃ w7, w7 = (((((w6.setCell ⟨w.heap.size, 0, none⟩ (.slice a0 m0 q0)).setCell ⟨w.heap.size, 1, none⟩ (.slice a1 m1 q1)).setCell ⟨w.heap.size, 2, none⟩ (.slice a2 m2 q2)).setCell ⟨w.heap.size, 3, none⟩ (.slice a3 m3 q3)).setCell ⟨w.heap.size, 4, none⟩ (.slice a4 m4 q4)) := ⟨_, rfl⟩
   have ho7 : ∀ k, k ≠ w.heap.size → w7.heap[k]? = w6.heap[k]? := fun k hk => by rw [hw7, hpS hk, hpS hk, hpS hk, hpS hk, hpS hk]
   have f7 : w7.heap[w.heap.size + 1]? = some ftZ := (ho7 _ (by omega)).trans f6
   have p7 : w7.heap[w.heap.size]? = some (.cells #[.slice a0 m0 q0, .slice a1 m1 q1, .slice a2 m2 q2, .slice a3 m3 q3, .slice a4 m4 q4] 28 (0, 0)) := by rw [hw7]; exact (Qac (Qac (Qac (Qac (Qac p6 0 _) 1 _) 2 _) 3 _) 4 _).trans rfl
   have b07 : Below w.heap.size w w7 := by rw [hw7]; exact ((((b06.setCell (p := ⟨w.heap.size, 0, none⟩) (Nat.le_refl _) _).setCell (p := ⟨w.heap.size, 1, none⟩) (Nat.le_refl _) _).setCell (p := ⟨w.heap.size, 2, none⟩) (Nat.le_refl _) _).setCell (p := ⟨w.heap.size, 3, none⟩) (Nat.le_refl _) _).setCell (p := ⟨w.heap.size, 4, none⟩) (Nat.le_refl _) _
   obtain ⟨y0, y1, yf⟩ := cl2 f7
   obtain ⟨w9, hw9⟩ : ∃ w9, w9 = (w7.setCell ⟨w.heap.size + 1, 0, none⟩ (.int .i64 0)).setCell ⟨w.heap.size + 1, 1, none⟩ (.int .i64 0) := ⟨_, rfl⟩
   have ho9 : ∀ k, k ≠ w.heap.size + 1 → w9.heap[k]? = w7.heap[k]? := fun k hk => by rw [hw9, hpS hk, hpS hk]
   have f9 : w9.heap[w.heap.size + 1]? = some (.cells #[.int .i64 0, .int .i64 0] 31 (0, 0)) := by rw [hw9]; exact (Qac (Qac f7 0 _) 1 _).trans rfl
   have p9 := (ho9 w.heap.size (by omega)).trans p7
   have b09 : Below w.heap.size w w9 := by rw [hw9]; exact (b07.setCell (p := ⟨w.heap.size + 1, 0, none⟩) (by show w.heap.size ≤ w.heap.size + 1; omega) _).setCell (p := ⟨w.heap.size + 1, 1, none⟩) (by show w.heap.size ≤ w.heap.size + 1; omega) _
   have hsz : w6.heap.size ≤ w9.heap.size := by rw [hw9, hw7]; simp [World.setCell]
   have hP9 : VPg (fun b => w.heap.size ≤ b) w9 (.agg #[.slice a0 m0 q0, .slice a1 m1 q1, .slice a2 m2 q2, .slice a3 m3 q3, .slice a4 m4 q4]) p := ⟨_, _, _, _, _, _, _, _, _, _, _, _, _, _, _, rfl, Qat.mono _ _ _ _ _ (Qat.same _ _ w9 _ _ hP hsz (fun b hb _ => by have hb' : w5.heap.size ≤ b := hb; exact (ho9 b (by omega)).trans (ho7 b (by omega)))) (fun b _ hb => by have hb' : w5.heap.size ≤ b := hb; omega)⟩
   have HU := hide (Ya p9 (Ya f9 (Ya hP9 b09)))
   have HW9 := hide hw9
   clear b05 p5 f5 g4 g5 p6 f6 b06 ho7 f7 p7 b07 hw9 ho9 f9 p9 b09 hsz hP9 hP K5 k6
   subst hw7
   go_wp2_with fail
   rw [← Qa HW9]
   obtain ⟨p9, f9, hP9, b09⟩ := Qa HU
   obtain ⟨u0, u1, u2, u3, u4, uf⟩ := cl5 p9
   obtain ⟨t0, t1, tf⟩ := cl2 f9
   clear x0 x1 x2 x3 x4 xf y0 y1 yf HW9 HU
   refine bodyPost_ret (v := .tuple #[.agg #[.slice a0 m0 q0, .slice a1 m1 q1, .slice a2 m2 q2, .slice a3 m3 q3, .slice a4 m4 q4], .agg #[.int .i64 0, .int .i64 0]]) (by simp [results, Tryz.results5, go_sem, u0, u1, u2, u3, u4, t0, t1]) rfl ?_
   rw [Qa HE2]
   exact ⟨_, rfl, hP9, b09⟩
theorem Qet (s : ByteArray) (hs : s.size ≤ 281474976710656) (w : World) (hE : Env w) :
  Calls Tryz.prog 5 #[.string s] w fun en w' => PsA w (parseP s.data.toList) en w' := Qsp s hs w hE (fun _ _ _ _ h => Qsw h)
end
section
open Go.RowKit Go.Maps
def Tbl (B : Nat) (w : World) : Prop := Lib.TabIs Tryz.prog w "internal/strconv.uint64pow10" .u64 Lib.pow10Tab ∧ ∀ g, Tryz.prog.globalNamed "internal/strconv.uint64pow10" = some g → g < B
theorem tbl_var {name : String} {g B : Nat} {w w' : World} {cs : Array Value} (hg : Tryz.prog.globalNamed name = some g) (hB : g < B) (h : w.var? Tryz.prog name = some cs) (b : Below B w w') : w'.var? Tryz.prog name = some cs := by
 unfold World.var? at *
 rw [hg] at *
 simp only [Option.bind_some] at *
 rw [b.block g hB]; exact h
theorem Tbl.below {B : Nat} {w w' : World} (h : Tbl B w) (b : Below B w w') : Tbl B w' := by
 obtain ⟨g, hg⟩ : ∃ g, Tryz.prog.globalNamed "internal/strconv.uint64pow10" = some g := by
  have := h.1
  unfold Lib.TabIs World.var? at this
  cases e : Tryz.prog.globalNamed "internal/strconv.uint64pow10" with
  | none => rw [e] at this; cases this
  | some g => exact ⟨g, rfl⟩
 exact ⟨tbl_var hg (h.2 g hg) h.1 b, h.2⟩
theorem Tbl.more {B B' : Nat} {w : World} (h : Tbl B w) (hB : B ≤ B') : Tbl B' w := ⟨h.1, fun g hg => Nat.lt_of_lt_of_le (h.2 g hg) hB⟩
structure Wr (B b : Nat) (c : Txt) (lg : Bool) (w : World) : Prop where
 le : B ≤ b
 few : c.length ≤ 65536
 tbl : Tbl B w
 box : ∃ p v, w.heap[b]? = some (.cells #[p, v, .bool lg] 55 (0, 0)) ∧ (p = .pointer none ∨ p = .pointer (some ⟨b, 0, none⟩)) ∧ w.ownsRowF B 5 1 v c.length (Lib.byteCells c) ∧ v.ownBlock ≠ some b
structure Kept (B b : Nat) (w w' : World) : Prop where
 below : Below B w w'
 others : Lib.OthersKept 5 (some b) w w'
theorem Kept.refl (B b : Nat) (w : World) : Kept B b w w := ⟨Below.refl _ _, Lib.OthersKept.refl _ _ _⟩
theorem Kept.trans {B b : Nat} {u w w' : World} (h : Kept B b u w) (k : Kept B b w w') : Kept B b u w' := ⟨h.below.trans k.below, h.others.trans k.others⟩
theorem Kept.set {B b : Nat} {u w : World} (h : Kept B b u w) (hB : B ≤ b) (i : Nat) (v : Value) : Kept B b u (w.setCell ⟨b, i, none⟩ v) := ⟨h.below.setCell (p := ⟨b, i, none⟩) hB v, h.others.setCell ⟨b, i, none⟩ rfl v⟩
def WT (c : Txt) (lg : Bool) (t : Txt) (c' : Txt) (lg' : Bool) : Prop := (lg = true → lg' = true) ∧ (lg = false → c.length + t.length ≤ 65536 → c' = c ++ t ∧ lg' = false) ∧ (lg = false → 65536 < c.length + t.length → lg' = true)
theorem WT.refl (c : Txt) (lg : Bool) (h : c.length ≤ 65536) : WT c lg [] c lg := ⟨fun e => e, fun e _ => ⟨(List.append_nil _).symm, e⟩, fun _ h2 => by simp at h2; omega⟩
theorem WT.trans {c c1 c2 t u : Txt} {l l1 l2 : Bool} (h : WT c l t c1 l1) (k : WT c1 l1 u c2 l2) : WT c l (t ++ u) c2 l2 := by
 refine ⟨fun e => k.1 (h.1 e), fun e hl => ?_, fun e hl => ?_⟩
 ·
  rw [List.length_append] at hl
  obtain ⟨rfl, e1⟩ := h.2.1 e (by omega)
  obtain ⟨rfl, e2⟩ := k.2.1 e1 (by rw [List.length_append]; omega)
  exact ⟨List.append_assoc _ _ _, e2⟩
 rw [List.length_append] at hl
 by_cases h1 : c.length + t.length ≤ 65536
 ·
  obtain ⟨rfl, e1⟩ := h.2.1 e h1
  exact k.2.2 e1 (by rw [List.length_append]; omega)
 · exact k.1 (h.2.2 e (by omega))
theorem WT.long {c c1 t : Txt} {l1 : Bool} (h : WT c true t c1 l1) (u : Txt) : WT c true u c1 l1 := ⟨h.1, (fun e => by cases e), (fun e => by cases e)⟩
theorem cl3w {w : World} {b : Nat} {T : TypeId} {v0 v1 v2 : Value} (h : w.heap[b]? = some (.cells #[v0, v1, v2] T (0, 0))) : w.cell? ⟨b, 0, none⟩ = some v0 ∧ w.cell? ⟨b, 1, none⟩ = some v1 ∧ w.cell? ⟨b, 2, none⟩ = some v2 ∧ w.shape? b = some (T, 3) ∧ ∀ o, w.frozen? ⟨b, o, none⟩ = false :=
 ⟨(Qaa h 0).trans rfl, (Qaa h 1).trans rfl, (Qaa h 2).trans rfl, by simp [World.shape?, h], fun o => by simp [World.frozen?, h]⟩
theorem Qni {b : Nat} {w : World} {p v q : Value} (hb : w.heap[b]? = some (.cells #[p, v, q] 55 (0, 0))) (hp : p = .pointer none ∨ p = .pointer (some ⟨b, 0, none⟩)) :
  Calls Tryz.prog 127 #[.pointer (some ⟨b, 0, none⟩)] w fun e w' => e = .returned (.tuple #[]) ∧ w' = w.setCell ⟨b, 0, none⟩ (.pointer (some ⟨b, 0, none⟩)) ∨ e = .returned (.tuple #[]) ∧ w' = w ∧ p = .pointer (some ⟨b, 0, none⟩) := by
 obtain ⟨j, hj, hjs⟩ := Option.map_eq_some_iff.1 (show (Tryz.prog.info? 53).map (·.size) = some 2 by kernel_rfl)
 obtain ⟨h0, h1, h2, hsh, hfz⟩ := cl3w hb
 rcases hp with rfl | rfl
 ·
  go_enter Tryz.func127, Tryz.ntmps127
  go_wp2_with fail
  rw [Lib.run_to_unsafe w ⟨b, 0, none⟩ Tryz.underlying50 Tryz.underlying202 hj (by rw [hjs]; decide) hsh (Nat.zero_lt_succ 2)]
  simp only [Result.andThen]
  rw [Oper.upon_value]
  go_wp2_with fail
  rw [run_callFunc_extern Tryz.func145 (by kernel_rfl) (by kernel_rfl) (by kernel_rfl) (e := Extern.AbiNoEscape.same) (by kernel_rfl), Lib.run_noEscape]
  simp only [Result.andThen]
  rw [Oper.upon_value]
  go_wp2_with fail
  rw [Lib.run_from_unsafe w ⟨b, 0, none⟩ Tryz.underlying202 Tryz.underlying50 hj hsh (by kernel_rfl)]
  simp only [Result.andThen]
  rw [Oper.upon_value]
  go_wp2_with fail
  go_end0
  exact .inl ⟨rfl, rfl⟩
 go_enter Tryz.func127, Tryz.ntmps127
 go_wp2_with fail
 rw [Lib.run_neq_ptr_same w _ Tryz.underlying50 hj]
 go_wp2_with fail
 go_end0
 exact .inr ⟨rfl, rfl, trivial⟩
theorem Qrm {B b : Nat} {c : Txt} {lg : Bool} {w : World} (h : Wr B b c lg w) :
  Calls Tryz.prog 127 #[.pointer (some ⟨b, 0, none⟩)] w fun e w' => e = .returned (.tuple #[]) ∧ Kept B b w w' ∧ ∃ v, w'.heap[b]? = some (.cells #[.pointer (some ⟨b, 0, none⟩), v, .bool lg] 55 (0, 0)) ∧ w'.ownsRowF B 5 1 v c.length (Lib.byteCells c) ∧ v.ownBlock ≠ some b := by
 obtain ⟨hB, _, _, p, v, hb, hp, ho, hn⟩ := h
 refine (Qni hb hp).mono ?_
 rintro e w' (⟨rfl, rfl⟩ | ⟨rfl, rfl, rfl⟩)
 ·
  refine ⟨rfl, (Kept.refl B b w).set hB 0 _, v, (Qac hb 0 _).trans rfl, ?_, hn⟩
  exact ho.kept (row := some b) ⟨rfl, rfl, rfl, by simp [World.setCell], fun k _ hk => hpS (fun e => hk (by simp [e]))⟩ (Or.inr hn)
 · exact ⟨rfl, Kept.refl _ _ _, v, hb, ho, hn⟩
theorem info5w : ∃ i0 : TypeInfo, Tryz.prog.info? 5 = some i0 ∧ i0.zero = some (.int .u8 0) ∧ i0.size = 1 ∧ i0.bytes = 1 := by
 have h : (Tryz.prog.info? 5).map (fun i => (i.zero, i.size, i.bytes)) = some (some (.int .u8 0), 1, 1) := by kernel_rfl
 obtain ⟨i0, hi, hi3⟩ := Option.map_eq_some_iff.1 h
 simp only [Prod.mk.injEq] at hi3
 exact ⟨i0, hi, hi3⟩
theorem wws_any {B b : Nat} {c : Txt} {lg : Bool} {w : World} (h : Wr B b c lg w) (s : ByteArray) (hl : c.length + s.size ≤ 65536) :
  Calls Tryz.prog 99 #[.pointer (some ⟨b, 0, none⟩), .string s] w fun e w' => (∃ v, e = .returned v) ∧ Wr B b (c ++ s.data.toList) lg w' ∧ Kept B b w w' := by
 obtain ⟨i0, hi, hz0, hz1, hz2⟩ := info5w
 have hcl : (Lib.byteCells c).length = c.length := Lib.byteCells_length c
 have hsl : s.data.toList.length = s.size := Array.length_toList
 have hck := Qrm h
 have hB := h.le
 have HTB := hide h.tbl
 obtain ⟨_, _, hb0, _⟩ := h.box
 have hbl := Qaf hb0
 clear h hb0
 go_enter Tryz.func99, Tryz.ntmps99
 go_wp2_with fail
 refine hck.mono ?_
 clear hck
 rintro e w1 ⟨rfl, b1, v, hbk, hown, hne⟩
 obtain ⟨c0, c1, c2, _, cf⟩ := cl3w hbk
 have hs1 := b1.below.size
 go_wp2_with (at_builtin; refine Lib.wpList_append_own_stringF _ rfl _ _ 51 9 rfl B 5 i0 Tryz.underlying51 Tryz.underlying9 hi hz0 hz1 hz2 _ _ _ rfl hown s rfl ?q3 ?q4 ?q5 ?_)
 case q3 => unfold maxLen; omega
 case q4 => omega
 case q5 => omega
 intro v' w2 hown' hgrow _
 have hlt : b < w1.heap.size := Qaf hbk
 have hb2 := (hgrow.block b hlt (fun e => hne e.symm)).trans hbk
 obtain ⟨d0, d1, d2, _, df⟩ := cl3w hb2
 obtain ⟨ao, n', cap, rfl⟩ : ∃ ao n' cap, v' = .slice ao n' cap := by
  rcases hown'.2 with ⟨hv, _⟩ | ⟨g, cap, cur, fz, hv, _⟩
  · exact ⟨_, _, _, hv⟩
  · exact ⟨_, _, _, hv⟩
 have hbw : Kept B b w w2 := ⟨b1.below.grown hgrow (by omega) (fun k hk => (hown.lt k hk).1), b1.others.grown hgrow (Lib.ownsRowF_kind hown)⟩
 have hnb : (Value.slice ao n' cap).ownBlock ≠ some b := Lib.ownBlock_neF hown' hb2 (by decide)
 have hE : Hid (Wr B b (c ++ s.data.toList) lg (w2.setCell ⟨b, 1, none⟩ (.slice ao n' cap)) ∧ Kept B b w (w2.setCell ⟨b, 1, none⟩ (.slice ao n' cap))) := by
  refine ⟨⟨hB, by rw [List.length_append]; omega, (Qa HTB).below (hbw.set hB 1 _).below, _, _, (Qac hb2 1 _).trans rfl, .inr rfl, ?_, hnb⟩, hbw.set hB 1 _⟩
  have e1 : Lib.byteCells (c ++ s.data.toList) = Lib.byteCells c ++ Lib.strCells s := by simp [Lib.byteCells, Lib.strCells]
  rw [e1, List.length_append, hsl]
  exact hown'.kept (row := some b) ⟨rfl, rfl, rfl, by simp [World.setCell], fun k _ hk => hpS (fun e => hk (by simp [e]))⟩ (Or.inr hnb)
 clear hown' hgrow hb2 hbw hnb hown hbk b1
 go_wp2_with fail
 go_ret2
 exact ⟨⟨_, rfl⟩, Qa hE⟩
end
end Go.Proofs.YtccehgfecaamoaaGreatDoor
