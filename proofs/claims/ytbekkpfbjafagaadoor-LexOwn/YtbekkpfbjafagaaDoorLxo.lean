/- What a law of lex finds in the world; the law's own probe answers true. -/
import Derived.Test.YtbekkpfbjafagaaDoorLxn
namespace Go.Proofs.YtbekkpfbjafagaaDoor
open Go.ChangeShapes Go.WideShapes Go.ChangeAt Go.WideMaps Go.WideElems Go.RowKit

theorem gHeads : Tryd.prog.globalNamed "vestry/lex.heads" = some 0 := by kernel_rfl
theorem tHeads : (Tryd.prog.globals[0]?).map (·.type) = some 62 := by kernel_rfl
theorem gSigns : Tryd.prog.globalNamed "vestry/lex.signs" = some 1 := by kernel_rfl
theorem tSigns : (Tryd.prog.globals[1]?).map (·.type) = some 65 := by kernel_rfl
theorem gRange : Tryd.prog.globalNamed "strconv.ErrRange" = some 4 := by kernel_rfl
theorem tRange : (Tryd.prog.globals[4]?).map (·.type) = some 59 := by kernel_rfl
theorem cellsA : Tryd.prog.cellsOf 62 = 4 := by kernel_rfl
theorem cellsB : Tryd.prog.cellsOf 65 = 23 := by kernel_rfl
theorem cells9 : Tryd.prog.cellsOf 9 = 1 := by kernel_rfl
theorem starred : "*" ++ "errors.errorString" = "*errors.errorString" := by decide
theorem rowE (u : TypeId) (h : Tryd.prog.typeName? 3 u = some "*errors.errorString") : u = 88 :=
  typeName_ptr_named (nm := "errors.errorString") (by rw [starred]; kernel_rfl) (by kernel_rfl) (by decide) u (by rw [starred]; exact h)
theorem cellsE : Tryd.prog.cellsOf 90 = 1 := by kernel_rfl

theorem strs_of {W : World} {name : String} {g : Nat} {t : TypeId} {n : Nat} {zs : List Txt} {rest : List (String × DataW Unit)} (hg : Tryd.prog.globalNamed name = some g) (hty : (Tryd.prog.globals[g]?).map (·.type) = some t)
    (ht : Tryd.prog.underlying t = some (.array n 9)) (hct : Tryd.prog.cellsOf t = n) (h : laidMet Tryd.prog ((name, .agg (zs.map fun z => .lit (.string z))) :: rest) W) :
    ∀ (i : Nat) (x : Txt), zs[i]? = some x → W.cell? ⟨g, i, none⟩ = some (str x) := by
  obtain ⟨ps, ⟨g', t', cs, fuel, p, q, hg', ht', hvar, hd, _, _⟩, _⟩ := h
  obtain rfl := Option.some.inj (hg.symm.trans hg')
  obtain rfl := Option.some.inj (hty.symm.trans ht')
  have hcs := cells_of_strs ht Tryd.underlying9 cells9 hct hd
  intro i x hx
  have := World.var?_cell hg hvar i
  rw [this, ← Array.getElem?_toList, hcs, List.getElem?_map, hx]
  rfl

set_option maxRecDepth 100000 in
theorem env_of {W : World} (h : laidMetH Tryd.prog Rows.lexReadsRow.laid W) (hsh : W.ShapedOpen Tryd.prog) : Env W := by
  rw [MakeChecks.laidMetH_plain _ _ _ (by kernel_rfl)] at h
  have h3 : laidMet Tryd.prog (("strconv.ErrRange", Rows.laid_strconv_ErrRange) :: [("strconv.ErrSyntax", Rows.laid_strconv_ErrSyntax), ("vestry/lex.heads", Rows.laid_vestry_lex_heads), ("vestry/lex.signs", Rows.laid_vestry_lex_signs)]) W := laidMet.tail (laidMet.tail (laidMet.tail h))
  have h5 : laidMet Tryd.prog (("vestry/lex.heads", Rows.laid_vestry_lex_heads) :: [("vestry/lex.signs", Rows.laid_vestry_lex_signs)]) W := laidMet.tail (laidMet.tail h3)
  have h6 : laidMet Tryd.prog (("vestry/lex.signs", Rows.laid_vestry_lex_signs) :: []) W := laidMet.tail h5
  obtain ⟨a0, s0, hv0, -, -, -⟩ := laid_sentinel h3 gRange tRange Tryd.underlying59 rowE Tryd.underlying88 Tryd.underlying90 rfl rfl Tryd.underlying9 cellsE cells9
  refine ⟨⟨?_, ?_⟩, Tryd.laysM143.s1_3 W hsh, ⟨_, _, hv0⟩⟩
  · exact strs_of (zs := hds) gHeads tHeads Tryd.underlying62 cellsA h5
  · exact strs_of (zs := sgs) gSigns tSigns Tryd.underlying65 cellsB h6

set_option maxRecDepth 100000 in
theorem doorL (os : Os) (args : Array Value) : laidMetH Tryd.prog Rows.lexReadsRow.laid ((World.doorLaid Tryd.prog 72 os).forCall (fun _ _ => 0) ⟨#[], args, []⟩).memory :=
  laidMetH_of_parts3 (fuel := 8) (laidMet_of_run' 8 (by kernel_rfl) (by kernel_rfl)) (by kernel_rfl) (by kernel_rfl)

def five : List Tok := [⟨1, [100, 46, 112, 97, 116, 104], 0, 0⟩, ⟨4, [40], 0, 6⟩, ⟨2, [], 1, 7⟩, ⟨4, [41], 0, 8⟩, ⟨4, [46], 0, 9⟩]
theorem lex_path : lexP (⟨#[100, 46, 112, 97, 116, 104, 40, 49, 41, 46, 32, 47, 47, 32, 99]⟩ : ByteArray).data.toList = .ok five := by kernel_rfl
theorem lex_007 : lexP (⟨#[48, 48, 55]⟩ : ByteArray).data.toList = .bad 7 1 := by kernel_rfl

/-- A row of tokens that was answered, where it lies. -/
structure RowAt (w : World) (g cap : Nat) (toks : List Tok) : Prop where
  lt : g < w.heap.size
  le : toks.length ≤ cap
  cm : cap ≤ maxLen
  cells : ∀ (i : Nat) (t : Tok), toks[i]? = some t → w.cell? ⟨g, i * 4, none⟩ = some (.int .i64 t.kind) ∧ w.cell? ⟨g, i * 4 + 1, none⟩ = some (str t.text) ∧ w.cell? ⟨g, i * 4 + 2, none⟩ = some (.int .i64 t.num) ∧ w.cell? ⟨g, i * 4 + 3, none⟩ = some (.int .i64 (t.at_ : Int))
theorem RowAt.later {w w' : World} {g cap : Nat} {toks : List Tok} (h : RowAt w g cap toks) (hb : Below w.heap.size w w') : RowAt w' g cap toks :=
  ⟨Nat.lt_of_lt_of_le h.lt hb.size, h.le, h.cm, fun i t ht => by
    have := h.cells i t ht
    rw [← hb.cell (p := ⟨g, i * 4, none⟩) h.lt, ← hb.cell (p := ⟨g, i * 4 + 1, none⟩) h.lt, ← hb.cell (p := ⟨g, i * 4 + 2, none⟩) h.lt, ← hb.cell (p := ⟨g, i * 4 + 3, none⟩) h.lt] at this
    exact this⟩
theorem tokCells_at : ∀ (l : List Tok) (i : Nat) (t : Tok), l[i]? = some t → ∀ q, q < 4 → (tokCells l)[i * 4 + q]? = (tokVals t)[q]?
  | [], i, t, h => by simp at h
  | x :: l, 0, t, h => fun q hq => by
    simp at h; subst h
    have : tokCells (x :: l) = tokVals x ++ tokCells l := rfl
    rw [this, Nat.zero_mul, Nat.zero_add, List.getElem?_append_left (by simpa [tokVals] using hq)]
  | x :: l, i + 1, t, h => fun q hq => by
    have : tokCells (x :: l) = tokVals x ++ tokCells l := rfl
    have e : (tokVals x).length = 4 := rfl
    rw [this, List.getElem?_append_right (by rw [e]; omega), e, show (i + 1) * 4 + q - 4 = i * 4 + q by omega]
    exact tokCells_at l i t (by simpa using h) q hq
theorem row_of {w : World} {B : Nat} {v : Value} {toks : List Tok} (h : w.ownsRow B 32 4 v toks.length (tokCells toks)) :
    (v = .slice none 0 0 ∧ toks = []) ∨ ∃ g cap, v = .slice (some ⟨g, 0, none⟩) toks.length cap ∧ RowAt w g cap toks := by
  rcases h.2 with ⟨h1, h2⟩ | ⟨g, cap, cur, hv, hg, hh, hle, hcm, hcs, ht⟩
  · exact .inl ⟨h1, List.eq_nil_of_length_eq_zero h2⟩
  · refine .inr ⟨g, cap, hv, (Array.getElem?_eq_some_iff.1 hh).1, hle, hcm, fun i t hi => ?_⟩
    have hlen : i < toks.length := (List.getElem?_eq_some_iff.1 hi).1
    have key : ∀ q v, q < 4 → (tokVals t)[q]? = some v → w.cell? ⟨g, i * 4 + q, none⟩ = some v := fun q v hq hv => by
      rw [Lib.cell_of_heap hh, ← Array.getElem?_toList]
      have h1 : (cur.toList.take (toks.length * 4))[i * 4 + q]? = (tokCells toks)[i * 4 + q]? := by rw [ht]
      rw [List.getElem?_take, if_pos (by omega)] at h1
      rw [h1, tokCells_at toks i t hi q hq, hv]
    exact ⟨key 0 _ (by omega) rfl, key 1 _ (by omega) rfl, key 2 _ (by omega) rfl, key 3 _ (by omega) rfl⟩

set_option maxRecDepth 100000 in
set_option maxHeartbeats 4000000 in
theorem alive_any (w : World) (hE : Env w) : Calls Tryd.prog 12 #[] w fun e w' => e = .returned (.bool true) ∧ Below w.heap.size w w' := by
  have H1 := hide (tokens_any ⟨#[100, 46, 112, 97, 116, 104, 40, 49, 41, 46, 32, 47, 47, 32, 99]⟩ (by decide) w hE)
  rw [lex_path] at H1
  have HE := hide hE
  clear hE
  go_enter Tryd.func12, Tryd.ntmps12
  go_wp2_with fail
  refine (unhide H1).mono ?_
  rintro e w1 ⟨v, rfl, hown, b1⟩
  obtain ⟨g, cap, rfl, hrow⟩ : ∃ g cap, v = .slice (some ⟨g, 0, none⟩) 5 cap ∧ RowAt w1 g cap five := by
    rcases row_of hown with ⟨_, h⟩ | ⟨g, cap, h, h2⟩
    · exact absurd h (by simp [Out.toks, five])
    · exact ⟨g, cap, h, h2⟩
  have hE1 := (unhide HE).later b1
  have H2 := hide (tokens_any ⟨#[48, 48, 55]⟩ (by decide) (w1.alloc fltZ) (hE1.later ((Below.refl w1.heap.size w1).alloc (Nat.le_refl _) _)))
  rw [lex_007] at H2
  have HB := hide b1
  have HR := hide hrow
  clear hown b1 hrow hE1 H1 HE
  simp only [Out.why, Out.fa]
  go_wp2_with fail
  refine (unhide H2).mono ?_
  rintro e w2 ⟨v2, rfl, _, b2⟩
  have b2' : Below (w1.heap.size + 1) (w1.alloc fltZ) w2 := by simpa using b2
  have hbx : w2.heap[w1.heap.size]? = some fltZ := by rw [b2'.block _ (by omega)]; exact heap_alloc_new w1 _
  have y0 : w2.cell? ⟨w1.heap.size, 0, none⟩ = some (.int .i64 0) := by rw [Lib.cell_of_heap hbx]; rfl
  have y1 : w2.cell? ⟨w1.heap.size, 1, none⟩ = some (.int .i64 0) := by rw [Lib.cell_of_heap hbx]; rfl
  have b3 : Below w1.heap.size w1 w2 := ((Below.refl w1.heap.size w1).alloc (Nat.le_refl _) fltZ).trans (b2'.mono (by omega))
  have hr2 := (unhide HR).later b3
  have hlt := hr2.lt
  have hs2 : w1.heap.size < w2.heap.size := (Array.getElem?_eq_some_iff.1 hbx).1
  have c1 : ∀ o, (w2.alloc o).cell? ⟨g, 1, none⟩ = some (.string ⟨#[100, 46, 112, 97, 116, 104]⟩) := fun o => (World.cell?_alloc_lt w2 o _ hlt).trans (hr2.cells 0 _ rfl).2.1
  have c2 : ∀ o, (w2.alloc o).cell? ⟨g, 10, none⟩ = some (.int .i64 1) := fun o => (World.cell?_alloc_lt w2 o _ hlt).trans (hr2.cells 2 _ rfl).2.2.1
  have c4 : ∀ o, (w2.alloc o).cell? ⟨g, 17, none⟩ = some (.string ⟨#[46]⟩) := fun o => (World.cell?_alloc_lt w2 o _ hlt).trans (hr2.cells 4 _ rfl).2.1
  have z0 : ∀ o, (w2.alloc o).cell? ⟨w1.heap.size, 0, none⟩ = some (.int .i64 0) := fun o => (World.cell?_alloc_lt w2 o _ hs2).trans y0
  have z1 : ∀ o, (w2.alloc o).cell? ⟨w1.heap.size, 1, none⟩ = some (.int .i64 0) := fun o => (World.cell?_alloc_lt w2 o _ hs2).trans y1
  have HBB := hide ((unhide HB).trans (b3.mono (unhide HB).size))
  clear b2 b2' hbx b3 hr2 HR HB H2 y0 y1
  simp only [Out.why, Out.fa]
  go_wp2_with fail
  go_ret
  exact ⟨rfl, (unhide HBB).alloc (unhide HBB).size _⟩
end Go.Proofs.YtbekkpfbjafagaaDoor
