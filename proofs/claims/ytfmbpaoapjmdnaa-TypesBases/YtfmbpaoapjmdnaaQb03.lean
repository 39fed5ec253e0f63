/- What a token's walk answers; walks of a fault, a copy, a name and a number. Walks of a number. Walk of a text between quotes. Walks of the signs. Walks of a sign and of a token. Walk of Tokens. Walk of Tokens: its rounds. syn's reader: what it holds; the tokens ahead of it. syn's reader: signs, names, words, depth. What is wanted of the library. syn's reader: words, calls, depth, choices. syn's reader: what stands behind a name; one of some signs. The plain reading never gives tokens back. syn: a field. syn: lists of what was read, in memory. syn: the generic list, at Ex. syn: what stands between two signs, at Ex. -/
import Derived.Test.YtfmbpaoapjmdnaaQb02
import Derived.Laws.AppendOwnNone
import Derived.Deep.AppendLies
import Derived.WalkSpells
import Derived.Deep.MidRow
import Derived.Deep.WholeRow
import Derived.Test.YtfmbpaoapjmdnaaQb01
import Derived.WalkLawsBesides
import Derived.Test.YtfmbpaoapjmdnaaProg
import Derived.Maps.AppendAt
set_option maxRecDepth 100000
set_option maxHeartbeats 32000000
namespace Go.Proofs.Ytfmbpaoapjmdnaa
section
open Go.RowKit
structure TV where
 kd : Int
 tx : ByteArray
 nm : Int
 at_ : Int
 nd : Int
 why : Int
 fa : Int
abbrev TV.val (t : TV) : Value := .tuple #[.agg #[.int .i64 t.kd, .string t.tx, .int .i64 t.nm, .int .i64 t.at_], .int .i64 t.nd, .agg #[.int .i64 t.why, .int .i64 t.fa]]
def resT (k : Nat) : Res → TV
 | .tok kd tx nm n => ⟨kd, ⟨tx.toArray⟩, nm, (k : Int), ((k + n : Nat) : Int), 0, 0⟩
 | .bad why o => ⟨0, ⟨#[]⟩, 0, 0, 0, why, ((k + o : Nat) : Int)⟩

abbrev tokZ : Obj := .cells #[.int .i64 0, .string ⟨#[]⟩, .int .i64 0, .int .i64 0] 54
abbrev fltZ : Obj := .cells #[.int .i64 0, .int .i64 0] 31
structure Boxes (w : World) (b c : Nat) : Prop where
 x0 : w.cell? ⟨b, 0, none⟩ = some (.int .i64 0)
 x1 : w.cell? ⟨b, 1, none⟩ = some (.string ⟨#[]⟩)
 x2 : w.cell? ⟨b, 2, none⟩ = some (.int .i64 0)
 x3 : w.cell? ⟨b, 3, none⟩ = some (.int .i64 0)
 y0 : w.cell? ⟨c, 0, none⟩ = some (.int .i64 0)
 y1 : w.cell? ⟨c, 1, none⟩ = some (.int .i64 0)
 fx : ∀ o, w.frozen? ⟨b, o, none⟩ = false
 fy : ∀ o, w.frozen? ⟨c, o, none⟩ = false
theorem Qkt (w : World) : Below w.heap.size w ((w.alloc tokZ).alloc fltZ) := ((Below.refl _ w).alloc (Nat.le_refl _) _).alloc (by simp) _
theorem Qcm {w w2 : World} (h : Below (w.heap.size + 2) ((w.alloc tokZ).alloc fltZ) w2) : Boxes w2 w.heap.size (w.heap.size + 1) := by
 have hb : w2.heap[w.heap.size]? = some tokZ := by
  rw [h.block _ (by omega), Lib.alloc_old (w.alloc tokZ) _ _ (by simp)]
  exact heap_alloc_new w _
 have hc : w2.heap[w.heap.size + 1]? = some fltZ := by
  rw [h.block _ (by omega)]
  have := heap_alloc_new (w.alloc tokZ) fltZ
  rwa [show (w.alloc tokZ).heap.size = w.heap.size + 1 by simp] at this
 exact ⟨by rw [Lib.cell_of_heap hb]; rfl, by rw [Lib.cell_of_heap hb]; rfl, by rw [Lib.cell_of_heap hb]; rfl, by rw [Lib.cell_of_heap hb]; rfl,
  by rw [Lib.cell_of_heap hc]; rfl, by rw [Lib.cell_of_heap hc]; rfl, fun o => Lib.frozen_of_heap hb o, fun o => Lib.frozen_of_heap hc o⟩
theorem Qbp {B : Nat} {w w2 : World} (h : Below B w w2) {b c : Nat} (hb : B ≤ b) (hc : B ≤ c) (q0 q1 q2 q3 q4 q5 : Value) :
  Below B w ((((((w2.setCell ⟨b, 0, none⟩ q0).setCell ⟨b, 1, none⟩ q1).setCell ⟨b, 2, none⟩ q2).setCell ⟨b, 3, none⟩ q3).setCell ⟨c, 0, none⟩ q4).setCell ⟨c, 1, none⟩ q5) :=
 (((((h.setCell (p := ⟨b, 0, none⟩) hb q0).setCell (p := ⟨b, 1, none⟩) hb q1).setCell (p := ⟨b, 2, none⟩) hb q2).setCell (p := ⟨b, 3, none⟩) hb q3).setCell (p := ⟨c, 0, none⟩) hc q4).setCell (p := ⟨c, 1, none⟩) hc q5

theorem Qdc {a b : TV} (h : a = b) : Ending.returned a.val = .returned b.val := by rw [h]
end
section
open Go.RowKit
theorem Qnn {s : ByteArray} {m : Nat} (h : m < s.size) : noW (s.data.toList.drop m) = !inW (bv s[m]) := by rw [Qan s m h]; rfl
end
section
open Go.ChangeShapes Go.WideShapes Go.RowKit
def TR.app (bs : Txt) (k : Nat) : TR → TR
 | ok v n => ok (bs ++ v) (n + k)
 | bad o => bad (o + k)
 | never => never
theorem TR.app_nil (x : TR) : x.app [] 0 = x := by cases x <;> rfl
theorem TR.app_pre (bs : Txt) (k : Nat) (c : UInt8) (j : Nat) (x : TR) : (x.pre c j).app bs k = x.app (bs ++ [c]) (k + j) := by
 cases x with
 | ok v n => simp [TR.pre, TR.app]; omega
 | bad o => simp [TR.pre, TR.app]; omega
 | never => rfl

theorem Qqj {c : UInt8} (h1 : ¬ c = 34) (h2 : ¬ c = 10) (h3 : ¬ c = 92) : ∀ t : Txt, txScan (c :: t) = (txScan t).pre c 1
 | [] => by simp [txScan, h1, h2, h3, TR.pre]
 | d :: u => by rw [txScan, if_neg h1, if_neg h2, if_neg h3]
theorem Qkw : ∀ t : Txt, txScan (34 :: t) = .ok [] 1
 | [] => by simp [txScan]
 | d :: u => by rw [txScan, if_pos rfl]
theorem tx_line : ∀ t : Txt, txScan (10 :: t) = .bad 0
 | [] => by simp [txScan]
 | d :: u => by rw [txScan, if_neg (by decide), if_pos rfl]
theorem Qku {d b : UInt8} (h : esc d = some b) (u : Txt) : txScan (92 :: d :: u) = (txScan u).pre b 2 := by
 rw [txScan, if_neg (by decide), if_neg (by decide), if_pos rfl, h]
theorem Qkv : ∀ t : Txt, (∀ d u, t = d :: u → esc d = none) → txScan (92 :: t) = .bad 0
 | [], _ => by simp [txScan]
 | d :: u, h => by rw [txScan, if_neg (by decide), if_neg (by decide), if_pos rfl, h d u rfl]

def byteVals (l : List UInt8) : List Value := l.map fun b => Value.int .u8 (b.toNat : Int)
theorem Qpi {wr : World} {B : Nat} {v : Value} {bs : List UInt8} (hown : wr.ownsRow B 5 1 v bs.length (byteVals bs)) (hne : bs ≠ []) :
  (convert 158 9 v).run Try.prog wr = .ok (.string ⟨bs.toArray⟩) wr := by
 rcases hown.2 with ⟨_, h⟩ | ⟨g, cap, cur, rfl, hg, hheap, hle, hcap, hsz, htake⟩
 · exact absurd (List.eq_nil_of_length_eq_zero h) hne
 refine run_convert_bytes_back wr 158 9 5 ⟨g, 0, none⟩ cap bs Try.underlying158 Try.underlying5 Try.underlying9 fun j hj => ?_
 refine World.news_of_block hheap j _ ?_
 have h1 : (cur.toList.take (bs.length * 1))[j]? = (byteVals bs)[j]? := by rw [htake]
 rw [List.getElem?_take, if_pos (by omega)] at h1
 rw [h1]
 simp [byteVals, hj]
theorem Qph (w : World) : (convert 158 9 (.slice none 0 0)).run Try.prog w = .ok (.string ⟨#[]⟩) w := by
 rw [run_convert_bytes_string w 158 9 5 none 0 0 Try.underlying158 Try.underlying5 Try.underlying9]
 simp [Conv.bytesToString]
 rfl
theorem info5 : (Try.prog.info? 5).map (fun i => (i.zero, i.size, i.bytes)) = some (some (.int .u8 0), 1, 1) := by kernel_rfl

def TxRel (s : ByteArray) (k B : Nat) (W0 : World) (v i : Value) (wr : World) : Prop :=
 ∃ (m : Nat) (bs : Txt), i = .int .i64 (m : Int) ∧ Hid (k + 1 ≤ m ∧ m ≤ s.size ∧ bs.length ≤ m ∧ wr.ownsRow B 5 1 v bs.length (byteVals bs) ∧ Below B W0 wr ∧
  txScan (s.data.toList.drop (k + 1)) = (txScan (s.data.toList.drop m)).app bs (m - (k + 1)) ∧ (bs = [] → v = .slice none 0 0))

theorem Qgc {s : ByteArray} {k B m n : Nat} {W0 wr w2 : World} {v v' : Value} {bs : Txt} {c : UInt8} {x : Int} (hx : x = (c.toNat : Int)) (hB : B ≤ W0.heap.size)
  (h : k + 1 ≤ m ∧ m ≤ s.size ∧ bs.length ≤ m ∧ wr.ownsRow B 5 1 v bs.length (byteVals bs) ∧ Below B W0 wr ∧ txScan (s.data.toList.drop (k + 1)) = (txScan (s.data.toList.drop m)).app bs (m - (k + 1)) ∧ (bs = [] → v = .slice none 0 0))
  (hn : 0 < n) (hm : m + n ≤ s.size) (ht : txScan (s.data.toList.drop m) = (txScan (s.data.toList.drop (m + n))).pre c n)
  (hown : w2.ownsRow B 5 1 v' (bs.length + 1) (byteVals bs ++ [.int .u8 x])) (hgrow : (wr.alloc (.cells #[.int .u8 x] 5)).grownBy w2 v.ownBlock) :
  TxRel s k B W0 v' (.int .i64 ((m + n : Nat) : Int)) w2 := by
 obtain ⟨h1, h2, h3, h4, h5, h6, h7⟩ := h
 refine ⟨m + n, bs ++ [c], rfl, hide ⟨by omega, hm, by rw [List.length_append]; simp; omega, ?_, ?_, ?_, fun h => absurd h (by simp)⟩⟩
 ·
  have e : byteVals (bs ++ [c]) = byteVals bs ++ [.int .u8 x] := by rw [hx]; simp [byteVals]
  rw [e, List.length_append]; exact hown
 ·
  have hsz := h5.size
  exact (h5.alloc (by omega) _).grown hgrow (by simp; omega) (fun j hj => (h4.lt j hj).1)
 rw [h6, ht, TR.app_pre]
 congr 1
 omega

theorem Qdd (wr : World) (x : Value) : ∀ j u, ([x] : List Value)[j]? = some u → (wr.alloc (.cells #[x] 5)).cell? ((⟨wr.heap.size, 0, none⟩ : Addr).add j) = some u := by
 intro j u hj
 match j, hj with
 | 0, hj => simp at hj; subst hj; simp [Addr.add]
theorem Qeb (x : Int) : ∀ u ∈ ([.int .u8 x] : List Value), u.oneCell' = true := by
 intro u hu; simp at hu; subst hu; rfl
theorem esc_at {s : ByteArray} {m : Nat} (h : m < s.size) (h92 : bv s[m] = 92) : s.data.toList.drop m = 92 :: s.data.toList.drop (m + 1) := by
 have e : s[m] = 92 := (Qfj (k := 92) (by omega)).1 h92
 rw [Qan s m h, e]
theorem Qjm : ∃ i0 : TypeInfo, Try.prog.info? 5 = some i0 ∧ i0.zero = some (.int .u8 0) ∧ i0.size = 1 ∧ i0.bytes = 1 := by
 obtain ⟨i0, hi, hi3⟩ := Option.map_eq_some_iff.1 info5
 simp only [Prod.mk.injEq] at hi3
 exact ⟨i0, hi, hi3⟩
end
section
open Go.RowKit
abbrev str (l : Txt) : Value := .string ⟨l.toArray⟩
def sgs : List Txt := twos ++ ones.map fun c => [c]
theorem Qmf {α : Type} {l : List α} {p : α → Bool} (d : α) (h : ∀ j, j < l.length → p (l.getD j d) = false) : l.any p = false := by
 rw [List.any_eq_false]
 intro x hx
 obtain ⟨j, hj, rfl⟩ := List.mem_iff_getElem.1 hx
 have := h j hj
 rw [List.getD_eq_getElem?_getD, List.getElem?_eq_getElem hj] at this
 simpa using this
theorem Qmd {α : Type} {l : List α} {p : α → Bool} (d : α) {j : Nat} (hj : j < l.length) (h : p (l.getD j d) = true) : l.any p = true := by
 rw [List.any_eq_true]
 refine ⟨l[j], List.getElem_mem hj, ?_⟩
 rw [List.getD_eq_getElem?_getD, List.getElem?_eq_getElem hj] at h
 simpa using h
theorem hd_hit {l : Txt} {k : Nat} (hk : k < 4) (hp : pre (hds.getD k []) l = true) (hn : noW (l.drop 5) = true) : sgLen l = 5 := by
 unfold sgLen isHd
 rw [Qmd (p := fun h => pre h l) [] (show k < hds.length from hk) hp, hn]; rfl
theorem hd_none {l : Txt} (h : ∀ j, j < 4 → (pre (hds.getD j []) l && noW (l.drop 5)) = false) : isHd l = false := by
 unfold isHd
 cases hn : noW (l.drop 5) with
 | false => rw [Bool.and_false]
 | true =>
  rw [Qmf (p := fun h => pre h l) []]; · rfl
  intro j hj
  have := h j hj
  rwa [hn, Bool.and_true] at this
abbrev hdA : Value := .agg #[str [46, 100, 101, 99, 108], str [46, 116, 121, 112, 101], str [46, 99, 111, 109, 112], str [46, 105, 110, 105, 116]]
theorem Qkh {k : Nat} (h : k < 4) : (hds.getD k []).length = 5 := by
 rcases (by omega : k = 0 ∨ k = 1 ∨ k = 2 ∨ k = 3) with rfl | rfl | rfl | rfl <;> rfl

abbrev sgA : Value := .agg #[str [58, 45], str [60, 58], str [60, 61], str [62, 61], str [33, 61], str [40], str [41], str [123], str [125], str [44], str [46], str [58], str [124], str [33], str [61], str [60], str [62], str [43], str [45], str [42], str [47], str [37], str [36]]
end
section
open Go.RowKit

end
section
open Go.RowKit
def tokVals (t : Tok) : List Value := [.int .i64 t.kind, str t.text, .int .i64 t.num, .int .i64 (t.at_ : Int)]
def tokCells (l : List Tok) : List Value := l.flatMap tokVals
theorem Qej (l : List Tok) (t : Tok) : tokCells (l ++ [t]) = tokCells l ++ tokVals t := by simp [tokCells]
def Out.toks : Out → List Tok
 | .ok l => l
 | .bad _ _ => []
def Out.why : Out → Int
 | .ok _ => 0
 | .bad w _ => w
def Out.fa : Out → Int
 | .ok _ => 0
 | .bad _ a => (a : Int)
def lexP (l : Txt) : Out := if 65536 < l.length then .bad 2 0 else scan 0 l
def TokAns (o : Out) (w w2 : World) (e : Ending) : Prop := ∃ v, e = .returned (.tuple #[v, .agg #[.int .i64 o.why, .int .i64 o.fa]]) ∧ w2.ownsRow w.heap.size 54 4 v o.toks.length (tokCells o.toks) ∧ Below w.heap.size w w2

def GSt (s : ByteArray) (k : Nat) (a why fa : Int) : Prop :=
 (why = 0 ∧ fa = 0 ∧ ∃ m : Nat, a = (m : Int) ∧ k ≤ m ∧ m ≤ s.size ∧ gapAt (s.data.toList.drop m) = .none ∧ scan k (s.data.toList.drop k) = scan m (s.data.toList.drop m)) ∨
 (why = 7 ∧ a = 0 ∧ ∃ m : Nat, fa = (m : Int) ∧ scan k (s.data.toList.drop k) = .bad 7 m)
structure TkInv (s : ByteArray) (w : World) (fb : Nat) (v : Value) (wr : World) (toks : List Tok) (a why fa : Int) : Prop where
 own : wr.ownsRow (w.heap.size + 1) 54 4 v toks.length (tokCells toks)
 bel : Below w.heap.size w wr
 rb : wr.heap[w.heap.size]? = some fltZ
 fbx : wr.heap[fb]? = some (.cells #[.int .i64 why, .int .i64 fa] 31)
 fb1 : w.heap.size + 1 ≤ fb
 st : (why = 0 ∧ fa = 0 ∧ ∃ m : Nat, a = (m : Int) ∧ m ≤ s.size ∧ toks.length ≤ m ∧ gapAt (s.data.toList.drop m) = .none ∧ scan 0 s.data.toList = (scan m (s.data.toList.drop m)).app toks) ∨
  (why = 7 ∧ a = 0 ∧ ∃ m : Nat, fa = (m : Int) ∧ scan 0 s.data.toList = .bad 7 m)
def TkRel (s : ByteArray) (w : World) (fb : Nat) (v i : Value) (wr : World) : Prop :=
 ∃ (toks : List Tok) (a why fa : Int), i = .int .i64 a ∧ Hid (TkInv s w fb v wr toks a why fa)
def fltOf : Option Value → Int
 | some (.int _ q) => q
 | _ => 1
def tkMu (n fb : Nat) (i : Value) (wr : World) : Nat := if fltOf (wr.cell? ⟨fb, 0, none⟩) = 0 then n + 1 - (intOf i).toNat else 0

theorem out_own {w wr w2 : World} {v : Value} {toks : List Tok} (h : wr.ownsRow (w.heap.size + 1) 54 4 v toks.length (tokCells toks))
  (hb : ∀ k, w.heap.size + 1 ≤ k → w2.heap[k]? = wr.heap[k]?) : w2.ownsRow w.heap.size 54 4 v toks.length (tokCells toks) := by
 refine ⟨h.1, ?_⟩
 rcases h.2 with h | ⟨g, cap, cur, hv, hg, hh, h4, h5, h6, h7⟩
 · exact .inl h
 · exact .inr ⟨g, cap, cur, hv, by omega, by rw [hb g hg]; exact hh, h4, h5, h6, h7⟩

theorem infoTok : (Try.prog.info? 54).map (fun i => (i.zero, i.size, i.bytes)) = some (some (.agg #[.int .i64 0, .string ⟨#[]⟩, .int .i64 0, .int .i64 0]), 4, 40) := by kernel_rfl
theorem Qfr : ∃ i0 : TypeInfo, Try.prog.info? 54 = some i0 ∧ i0.zero = some (.agg #[.int .i64 0, .string ⟨#[]⟩, .int .i64 0, .int .i64 0]) ∧ i0.size = 4 ∧ i0.bytes = 40 := by
 obtain ⟨i0, hi, hi3⟩ := Option.map_eq_some_iff.1 infoTok
 simp only [Prod.mk.injEq] at hi3
 exact ⟨i0, hi, hi3⟩
abbrev six (w : World) (b c : Nat) (q0 q1 q2 q3 q4 q5 : Value) : World :=
 (((((w.setCell ⟨b, 0, none⟩ q0).setCell ⟨b, 1, none⟩ q1).setCell ⟨b, 2, none⟩ q2).setCell ⟨b, 3, none⟩ q3).setCell ⟨c, 0, none⟩ q4).setCell ⟨c, 1, none⟩ q5
theorem Qom (w : World) (c : Nat) (q4 q5 p0 p1 : Value) (h : w.heap[c]? = some (.cells #[p0, p1] 31)) : ((w.setCell ⟨c, 0, none⟩ q4).setCell ⟨c, 1, none⟩ q5).heap[c]? = some (.cells #[q4, q5] 31) :=
 heap_setCell_same _ c 1 _ _ q5 (heap_setCell_same _ c 0 _ _ q4 h)
theorem Qpw {w w' : World} {B : Nat} {v : Value} {n : Nat} {xs : List Value} (h : w.ownsRow B 54 4 v n xs) (hb : ∀ (g : Nat) (cur : Array Value), w.heap[g]? = some (.cells cur 54) → w'.heap[g]? = w.heap[g]?) : w'.ownsRow B 54 4 v n xs := by
 refine ⟨h.1, ?_⟩
 rcases h.2 with h | ⟨g, cap, cur, hv, hg, hh, h4, h5, h6, h7⟩
 · exact .inl h
 · exact .inr ⟨g, cap, cur, hv, hg, by rw [hb g cur hh]; exact hh, h4, h5, h6, h7⟩
theorem Qfe (wr : World) (q0 q1 q2 q3 : Value) : ∀ j u, ([q0, q1, q2, q3] : List Value)[j]? = some u → (wr.alloc (.cells #[q0, q1, q2, q3] 54)).cell? ((⟨wr.heap.size, 0, none⟩ : Addr).add j) = some u := by
 intro j u hj
 match j, hj with
 | 0, hj => simp at hj; subst hj; simp [Addr.add]
 | 1, hj => simp at hj; subst hj; simp [Addr.add]
 | 2, hj => simp at hj; subst hj; simp [Addr.add]
 | 3, hj => simp at hj; subst hj; simp [Addr.add]
theorem Qhx (k n m : Int) (b : ByteArray) : ∀ u ∈ ([.int .i64 k, .string b, .int .i64 n, .int .i64 m] : List Value), u.oneCell' = true := by
 intro u hu
 simp at hu
 rcases hu with rfl | rfl | rfl | rfl <;> rfl
theorem Qhg (toks : List Tok) (o : Out) (w : Int) (a : Nat) (h : o = .bad w a) : o.app toks = .bad w a := by subst h; rfl
end
section
open Go.RowKit
def tkStore (p v : Value) : Sem Unit := Instr.storeAt 54 p v
theorem Qdo (p v : Value) : Instr.storeAt 54 p v = tkStore p v := rfl
def flStore (p v : Value) : Sem Unit := Instr.storeAt 31 p v
theorem Qha (p v : Value) : Instr.storeAt 31 p v = flStore p v := rfl
def tkLoad (x : Value) : Sem Value := Instr.loadAt 54 x
theorem Qee (x : Value) : Instr.loadAt 54 x = tkLoad x := rfl
def flLoad (x : Value) : Sem Value := Instr.loadAt 31 x
theorem Qio (x : Value) : Instr.loadAt 31 x = flLoad x := rfl
theorem Qjw : (Try.prog.info? 54).map (·.size) = some 4 := by kernel_rfl
theorem Qjv : (Try.prog.info? 31).map (·.size) = some 2 := by kernel_rfl

theorem fl_new (w : World) (a b : Int) : (flStore (.pointer (some ⟨w.heap.size, 0, none⟩)) (.agg #[.int .i64 a, .int .i64 b])).run Try.prog (w.alloc (.cells #[.int .i64 0, .int .i64 0] 31)) = .ok () (w.alloc (.cells #[.int .i64 a, .int .i64 b] 31)) :=
 run_storeAt_new w 31 _ _ Qjv rfl (by simp [Value.oneCell'])
theorem Qkg {w : World} {b : Nat} {p0 p1 : Value} (h : w.heap[b]? = some (.cells #[p0, p1] 31)) (q0 q1 : Int) :
  (flStore (.pointer (some ⟨b, 0, none⟩)) (.agg #[.int .i64 q0, .int .i64 q1])).run Try.prog w = .ok () ((w.setCell ⟨b, 0, none⟩ (.int .i64 q0)).setCell ⟨b, 1, none⟩ (.int .i64 q1)) := by
 refine run_storeAt_mid w b 0 31 #[.int .i64 q0, .int .i64 q1] (fun j hj => ⟨?_, Lib.frozen_of_heap h _⟩) Qjv (by simp [Value.oneCell'])
 have hj : j < 2 := hj
 rw [Lib.cell_of_heap h]
 rcases (by omega : j = 0 ∨ j = 1) with rfl | rfl <;> rfl
theorem Qqi {w : World} {b : Nat} {p0 p1 p2 p3 : Value} (h : w.heap[b]? = some (.cells #[p0, p1, p2, p3] 54)) (k n a : Int) (t : ByteArray) :
  (tkStore (.pointer (some ⟨b, 0, none⟩)) (.agg #[.int .i64 k, .string t, .int .i64 n, .int .i64 a])).run Try.prog w =
   .ok () ((((w.setCell ⟨b, 0, none⟩ (.int .i64 k)).setCell ⟨b, 1, none⟩ (.string t)).setCell ⟨b, 2, none⟩ (.int .i64 n)).setCell ⟨b, 3, none⟩ (.int .i64 a)) := by
 refine run_storeAt_mid w b 0 54 #[.int .i64 k, .string t, .int .i64 n, .int .i64 a] (fun j hj => ⟨?_, Lib.frozen_of_heap h _⟩) Qjw (by simp [Value.oneCell'])
 have hj : j < 4 := hj
 rw [Lib.cell_of_heap h]
 rcases (by omega : j = 0 ∨ j = 1 ∨ j = 2 ∨ j = 3) with rfl | rfl | rfl | rfl <;> rfl
theorem Qcv {w : World} {b : Nat} {q0 q1 : Value} (h : w.heap[b]? = some (.cells #[q0, q1] 31)) :
  (flLoad (.pointer (some ⟨b, 0, none⟩))).run Try.prog w = .ok (.agg #[q0, q1]) w := by
 refine run_loadAt_mid w b 0 31 [q0, q1] _ (fun q v hq => ?_) Try.underlying31 rfl Qjv
 rw [Lib.cell_of_heap h, Nat.zero_add, ← hq]
 simp
theorem Qhw {w : World} {b : Nat} {q0 q1 q2 q3 : Value} (h : w.heap[b]? = some (.cells #[q0, q1, q2, q3] 54)) :
  (tkLoad (.pointer (some ⟨b, 0, none⟩))).run Try.prog w = .ok (.agg #[q0, q1, q2, q3]) w := by
 refine run_loadAt_mid w b 0 54 [q0, q1, q2, q3] _ (fun q v hq => ?_) Try.underlying54 rfl Qjw
 rw [Lib.cell_of_heap h, Nat.zero_add, ← hq]
 simp
structure Wrote (w wr w2 w4 : World) (fb : Nat) (T : TV) : Prop where
 eq : w4 = six w2 wr.heap.size fb (.int .i64 T.kd) (.string T.tx) (.int .i64 T.nm) (.int .i64 T.at_) (.int .i64 T.why) (.int .i64 T.fa)
 ft : w4.heap[wr.heap.size]? = some (.cells #[.int .i64 T.kd, .string T.tx, .int .i64 T.nm, .int .i64 T.at_] 54)
 ff : w4.heap[fb]? = some (.cells #[.int .i64 T.why, .int .i64 T.fa] 31)
 fr : w4.heap[w.heap.size]? = some fltZ
 bel : Below w.heap.size w w4
theorem last {w wr : World} (hb : Below w.heap.size w wr) (hr : wr.heap[w.heap.size]? = some fltZ) (p q : Int) :
  ∃ w9, (flStore (.pointer (some ⟨w.heap.size, 0, none⟩)) (.agg #[.int .i64 p, .int .i64 q])).run Try.prog wr = .ok () w9 ∧ w9.cell? ⟨w.heap.size, 0, none⟩ = some (.int .i64 p) ∧ w9.cell? ⟨w.heap.size, 1, none⟩ = some (.int .i64 q) ∧
   Below w.heap.size w w9 ∧ (∀ k, w.heap.size + 1 ≤ k → w9.heap[k]? = wr.heap[k]?) := by
 have h9 := Qom wr w.heap.size (.int .i64 p) (.int .i64 q) _ _ hr
 refine ⟨_, Qkg hr p q, by rw [Lib.cell_of_heap h9]; rfl, by rw [Lib.cell_of_heap h9]; rfl, (hb.setCell (p := ⟨w.heap.size, 0, none⟩) (Nat.le_refl _) _).setCell (p := ⟨w.heap.size, 1, none⟩) (Nat.le_refl _) _, fun k hk => ?_⟩
 rw [heap_setCell_other _ _ _ _ (by show k ≠ w.heap.size; omega), heap_setCell_other _ _ _ _ (by show k ≠ w.heap.size; omega)]

attribute [local go_sem ↓] Qdo Qha Qee Qio
end
section
open Go.RowKit
theorem bnw {w w' : World} {o : Obj} (h : w' = w.alloc o) : Below w.heap.size w w' := by rw [h]; exact (Below.refl _ w).alloc (Nat.le_refl _) _
theorem nnw {w w' : World} {cs : Array Value} {T : TypeId} (h : w' = w.alloc (.cells cs T)) : w'.heap[w.heap.size]? = some (.cells cs T (0, 0)) := by rw [h]; exact heap_alloc_new w _
structure Kp (rb : Nat) (w w' : World) : Prop where
 os : w'.os = w.os
 tape : w'.tape = w.tape
 output : w'.output = w.output
 size : w.heap.size ≤ w'.heap.size
 block : ∀ k, k < w.heap.size → k ≠ rb → w'.heap[k]? = w.heap[k]?
theorem Kp.refl (rb : Nat) (w : World) : Kp rb w w := ⟨rfl, rfl, rfl, Nat.le_refl _, fun _ _ _ => rfl⟩
theorem Kp.trans {rb : Nat} {a b c : World} (h : Kp rb a b) (k : Kp rb b c) : Kp rb a c := ⟨k.os.trans h.os, k.tape.trans h.tape, k.output.trans h.output, Nat.le_trans h.size k.size, fun i hi hn => (k.block i (by have := h.size; omega) hn).trans (h.block i hi hn)⟩
theorem Kp.of_below {rb : Nat} {w w' : World} (h : Below w.heap.size w w') : Kp rb w w' := ⟨h.os, h.tape, h.output, h.size, fun k hk _ => h.block k hk⟩
theorem Kp.below {rb B : Nat} {w w' : World} (h : Kp rb w w') (hB : B ≤ w.heap.size) (hr : B ≤ rb) : Below B w w' := ⟨h.os, h.tape, h.output, h.size, fun k hk => h.block k (by omega) (by omega)⟩
theorem Qab {w : World} {k : Nat} {o : Obj} (h : w.heap[k]? = some o) : k < w.heap.size := (Array.getElem?_eq_some_iff.1 h).1
theorem Qaf {w : World} {b : Nat} {cs : Array Value} {t : TypeId} {f : Nat × Nat} (h : w.heap[b]? = some (.cells cs t f)) (i : Nat) : w.cell? ⟨b, i, none⟩ = cs[i]? := by simp [World.cell?, h]

structure TokAt (w : World) (b o : Nat) (t : Tok) : Prop where
 c0 : w.cell? ⟨b, o, none⟩ = some (.int .i64 t.kind)
 c1 : w.cell? ⟨b, o + 1, none⟩ = some (str t.text)
 c2 : w.cell? ⟨b, o + 2, none⟩ = some (.int .i64 t.num)
 c3 : w.cell? ⟨b, o + 3, none⟩ = some (.int .i64 (t.at_ : Int))
theorem TokAt.same {w w' : World} {b o : Nat} {t : Tok} (h : TokAt w b o t) (hb : w'.heap[b]? = w.heap[b]?) : TokAt w' b o t := by
 obtain ⟨c0, c1, c2, c3⟩ := h
 simp only [World.cell?] at c0 c1 c2 c3
 constructor <;> simp only [World.cell?] <;> rw [hb] <;> assumption
theorem TokAt.lt {w : World} {b o : Nat} {t : Tok} (h : TokAt w b o t) : b < w.heap.size := World.block_lt_of_cell? w _ h.c0
def TokSl (rb : Nat) (w : World) (v : Value) (l : List Tok) : Prop := ∃ a cap, v = .slice a l.length cap ∧ l.length ≤ cap ∧ cap ≤ maxLen ∧ ∀ j t, l[j]? = some t → ∃ b o, a = some ⟨b, o, none⟩ ∧ b < rb ∧ TokAt w b (o + j * 4) t
theorem TokSl.kp {rb : Nat} {w w' : World} {v : Value} {l : List Tok} (h : TokSl rb w v l) (k : Kp rb w w') : TokSl rb w' v l := by
 obtain ⟨a, cap, h1, h2, h3, h4⟩ := h
 refine ⟨a, cap, h1, h2, h3, fun j t hj => ?_⟩
 obtain ⟨b, o, e1, e2, e3⟩ := h4 j t hj
 exact ⟨b, o, e1, e2, e3.same (k.block b e3.lt (by omega))⟩
abbrev tokV (t : Tok) : Value := .agg #[.int .i64 t.kind, str t.text, .int .i64 t.num, .int .i64 (t.at_ : Int)]
def noTok (e : Nat) : Tok := ⟨0, [], 0, e⟩
theorem Qah {w : World} {b : Nat} {cur : Array Value} {t : TypeId} {f : Nat × Nat} (h : w.heap[b]? = some (.cells cur t f)) (i : Nat) (v : Value) : (w.setCell ⟨b, i, none⟩ v).heap[b]? = some (.cells (cur.setIfInBounds i v) t f) := by
 obtain ⟨hlt, hk⟩ := Array.getElem?_eq_some_iff.1 h
 show (w.heap.modify b _)[b]? = _
 rw [Array.getElem?_eq_getElem (by rw [Array.size_modify]; exact hlt), Array.getElem_modify_self, hk]
 rfl
theorem hpS {w : World} {p : Addr} {v : Value} {k : Nat} (h : k ≠ p.block) : (w.setCell p v).heap[k]? = w.heap[k]? := Below.heap_setCell _ _ _ _ h
theorem Kp.set (rb : Nat) (w : World) (i : Nat) (v : Value) : Kp rb w (w.setCell ⟨rb, i, none⟩ v) := by
 have h := (Below.refl 0 w).setCell (p := ⟨rb, i, none⟩) (Nat.zero_le _) v
 exact ⟨h.os, h.tape, h.output, h.size, fun k _ hn => hpS hn⟩
end
section
open Go.RowKit

end
end Go.Proofs.Ytfmbpaoapjmdnaa

namespace Go.Proofs.Ytfmbpaoapjmdnaa
section
open Go.RowKit

end
section
open Go.RowKit
def SgAt (rb : Nat) (w : World) (v : Value) (ss : List Txt) : Prop := ∃ b off c, v = .slice (some ⟨b, off, none⟩) ss.length c ∧ b ≠ rb ∧ b < w.heap.size ∧ ∀ j x, ss[j]? = some x → w.cell? ⟨b, off + j, none⟩ = some (str x)
theorem SgAt.kp {rb : Nat} {w w' : World} {v : Value} {ss : List Txt} (h : SgAt rb w v ss) (k : Kp rb w w') : SgAt rb w' v ss := by
 obtain ⟨b, off, c, h1, h2, h3, h4⟩ := h
 refine ⟨b, off, c, h1, h2, by have := k.size; omega, fun j x hx => ?_⟩
 have := h4 j x hx
 simp only [World.cell?] at this ⊢
 rw [k.block b h3 h2]; exact this
end
section
/-- What is left is no longer than what was there. -/
def Shr {α : Type} (p : Pr α) : Prop := ∀ l i x l' i', p l i = .ok x l' i' → l'.length ≤ l.length
section
variable {e : Nat}
end
end
section
open Go.RowKit
theorem Kp.keep {rb : Nat} {w w' : World} {k : Nat} {o : Obj} (h : Kp rb w w') (hk : w.heap[k]? = some o) (hn : k ≠ rb) : w'.heap[k]? = some o := (h.block k (Qab hk) hn).trans hk
theorem Kp.set2 {rb : Nat} {w w' : World} {k i : Nat} {v : Value} (h : Kp rb w w') (hk : w.heap.size ≤ k) : Kp rb w (w'.setCell ⟨k, i, none⟩ v) := by
 have hb := (Below.refl 0 w').setCell (p := ⟨k, i, none⟩) (Nat.zero_le _) v
 exact ⟨hb.os.trans h.os, hb.tape.trans h.tape, hb.output.trans h.output, Nat.le_trans h.size hb.size, fun j hj hn => (hpS (by show j ≠ k; omega)).trans (h.block j hj hn)⟩
end
section
open Go.RowKit Go.Maps
theorem Qaj {P : Program} (w : World) {ops : Array Oper} {rest : List Oper} {o : Oper} {a : Act} {Q : Exit → Act → World → Prop}
  (hg : o.guard = none) (s x : Operand) (t : TypeId) (hop : o.op = Op.call { callee := Callee.builtin Builtin.append, args := #[s, x], argTypes := #[t, t] })
  (v u : Value) (hs : a.eval s = v) (hx : a.eval x = u) (v' : Value) (w' : World) (hrun : (Builtin.append_ #[t, t] o.type #[v, u]).run P w = .ok v' w')
  (hK : wpList P ops Q rest (a.put o.dst v') w') : wpList P ops Q (o :: rest) a w := by
 refine wpList_plain hg fun K hK' => ?_
 unfold Oper.wp
 simp [execOp, hop, resolve, invoke, builtin, hs, hx, hrun, Result.andThen]
 exact hK' _ _ hK

abbrev PS (α : Type) := (Nat → Prop) → World → List Value → α → Prop
structure PSok {α : Type} (p : PS α) : Prop where
 mono : ∀ S S' w cs x, p S w cs x → (∀ b, b < w.heap.size → S b → S' b) → p S' w cs x
 same : ∀ S w w' cs x, p S w cs x → w.heap.size ≤ w'.heap.size → (∀ b, S b → b < w.heap.size → w'.heap[b]? = w.heap[b]?) → p S w' cs x
def All {α : Type} (p : PS α) (k : Nat) (S : Nat → Prop) (w : World) (css : List (List Value)) (xs : List α) : Prop := css.length = xs.length ∧ ∀ (j : Nat) (x : α) (cs : List Value), xs[j]? = some x → css[j]? = some cs → cs.length = k ∧ p S w cs x
def LsAt {α : Type} (p : PS α) (k : Nat) (S : Nat → Prop) (w : World) (v : Value) (xs : List α) : Prop := ∃ a cap css, v = .slice a xs.length cap ∧ xs.length ≤ cap ∧ cap ≤ maxLen ∧ All p k S w css xs ∧ (xs ≠ [] → ∃ b, a = some ⟨b, 0, none⟩ ∧ S b ∧ b < w.heap.size ∧ ∀ j c, css.flatten[j]? = some c → w.cell? ⟨b, j, none⟩ = some c)
section
variable {α : Type} {p : PS α} {k : Nat}
theorem All.mono (hp : PSok p) {S S' : Nat → Prop} {w : World} {css : List (List Value)} {xs : List α} (h : All p k S w css xs) (hS : ∀ b, b < w.heap.size → S b → S' b) : All p k S' w css xs :=
 ⟨h.1, fun j x cs h1 h2 => ⟨(h.2 j x cs h1 h2).1, hp.mono _ _ _ _ _ (h.2 j x cs h1 h2).2 hS⟩⟩
theorem All.same (hp : PSok p) {S : Nat → Prop} {w w' : World} {css : List (List Value)} {xs : List α} (h : All p k S w css xs) (hs : w.heap.size ≤ w'.heap.size) (hb : ∀ b, S b → b < w.heap.size → w'.heap[b]? = w.heap[b]?) : All p k S w' css xs :=
 ⟨h.1, fun j x cs h1 h2 => ⟨(h.2 j x cs h1 h2).1, hp.same _ _ _ _ _ (h.2 j x cs h1 h2).2 hs hb⟩⟩
theorem All.snoc {S : Nat → Prop} {w : World} {css : List (List Value)} {xs : List α} {cs : List Value} {x : α} (h : All p k S w css xs) (hl : cs.length = k) (hx : p S w cs x) : All p k S w (css ++ [cs]) (xs ++ [x]) := by
 refine ⟨by simp [h.1], fun j y c h1 h2 => ?_⟩
 by_cases hj : j < xs.length
 ·
  rw [List.getElem?_append_left hj] at h1
  rw [List.getElem?_append_left (by rw [h.1]; exact hj)] at h2
  exact h.2 j y c h1 h2
 rw [List.getElem?_append_right (by omega)] at h1
 rw [List.getElem?_append_right (by rw [h.1]; omega), h.1] at h2
 have hz : j - xs.length = 0 := by
  have := (List.getElem?_eq_some_iff.1 h1).1
  simp at this
  omega
 rw [hz] at h1 h2
 simp at h1 h2
 subst h1 h2
 exact ⟨hl, hx⟩
theorem LsAt.mono (hp : PSok p) {S S' : Nat → Prop} {w : World} {v : Value} {xs : List α} (h : LsAt p k S w v xs) (hS : ∀ b, b < w.heap.size → S b → S' b) : LsAt p k S' w v xs := by
 obtain ⟨a, cap, css, h1, h2, h3, h4, h5⟩ := h
 refine ⟨a, cap, css, h1, h2, h3, h4.mono hp hS, fun hn => ?_⟩
 obtain ⟨b, e1, e2, e3, e4⟩ := h5 hn
 exact ⟨b, e1, hS b e3 e2, e3, e4⟩
theorem LsAt.same (hp : PSok p) {S : Nat → Prop} {w w' : World} {v : Value} {xs : List α} (h : LsAt p k S w v xs) (hs : w.heap.size ≤ w'.heap.size) (hb : ∀ b, S b → b < w.heap.size → w'.heap[b]? = w.heap[b]?) : LsAt p k S w' v xs := by
 obtain ⟨a, cap, css, h1, h2, h3, h4, h5⟩ := h
 refine ⟨a, cap, css, h1, h2, h3, h4.same hp hs hb, fun hn => ?_⟩
 obtain ⟨b, e1, e2, e3, e4⟩ := h5 hn
 refine ⟨b, e1, e2, by omega, fun j c hj => ?_⟩
 have := e4 j c hj
 simp only [World.cell?] at this ⊢
 rw [hb b e2 e3]; exact this
theorem LsAt.nil (S : Nat → Prop) (w : World) : LsAt p k S w (.slice none 0 0) [] := ⟨none, 0, [], rfl, Nat.le_refl _, Nat.zero_le _, ⟨rfl, fun j x cs h => by simp at h⟩, fun h => absurd rfl h⟩
theorem LsAt.of {base : Nat} {T : TypeId} {w : World} {v : Value} {css : List (List Value)} {xs : List α} (ho : w.ownsRow base T k v xs.length css.flatten) (ha : All p k (fun b => base ≤ b) w css xs) : LsAt p k (fun b => base ≤ b) w v xs := by
 rcases id ho.2 with ⟨e, e2⟩ | ⟨g, cap, cur, e, hb, hg, hn, hm, _⟩
 ·
  have hx : xs = [] := List.length_eq_zero_iff.1 e2
  subst hx
  rw [e]
  exact LsAt.nil _ _
 refine ⟨some ⟨g, 0, none⟩, cap, css, e, hn, hm, ha, fun _ => ⟨g, rfl, hb, Qab hg, fun j c hj => ?_⟩⟩
 subst e
 have hl : j < xs.length * k := by rw [← ho.1]; exact (List.getElem?_eq_some_iff.1 hj).1
 rw [World.ownsRow.cellAt ho j hl]; exact hj
def left (rb : Nat) (w : World) : Nat := match w.cell? ⟨rb, 0, none⟩ with | some (.slice _ n _) => n | _ => 0
end
end
section
open Go.RowKit Go.Maps
theorem infoE : ∃ i0 : TypeInfo, Try.prog.info? 126 = some i0 ∧ i0.zero = some (.agg #[.int .i64 0, .int .i64 0, .string ⟨#[]⟩, .slice none 0 0, .int .i64 0]) ∧ i0.size = 5 ∧ i0.bytes = 64 := by
 have h : (Try.prog.info? 126).map (fun i => (i.zero, i.size, i.bytes)) = some (some (.agg #[.int .i64 0, .int .i64 0, .string ⟨#[]⟩, .slice none 0 0, .int .i64 0]), 5, 64) := by kernel_rfl
 obtain ⟨i0, hi, hi3⟩ := Option.map_eq_some_iff.1 h
 simp only [Prod.mk.injEq] at hi3
 exact ⟨i0, hi, hi3⟩
end
section
open Go.RowKit Go.Maps

end
end Go.Proofs.Ytfmbpaoapjmdnaa
