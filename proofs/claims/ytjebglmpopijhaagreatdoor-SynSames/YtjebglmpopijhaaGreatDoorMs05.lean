/- Walks of a sign and of a token. Walk of Tokens. Walk of Tokens: its rounds. -/
import Derived.Test.YtjebglmpopijhaaGreatDoorMs04
import Derived.Deep.WholeRow
set_option maxRecDepth 100000
set_option maxHeartbeats 32000000
namespace Go.Proofs.YtjebglmpopijhaaGreatDoor
section
open Go.RowKit
theorem Qqu (s : ByteArray) (k : Nat) (hk : k ≤ s.size) (hs : s.size ≤ 65536) (w : World) (hsg : SignsAt w) :
  Calls Tryz.prog 103 #[.string s, .int .i64 (k : Int)] w fun e w' => e = .returned (resT k (sgRes (s.data.toList.drop k))).val ∧ Below w.heap.size w w' := by
 have hb := Qdg w
 have HSG := hide (hsg.later hb)
 clear hsg
 have hle := sg_le (s.data.toList.drop k)
 rw [Qaw] at hle
 obtain ⟨n, hn⟩ : ∃ n, sgLen (s.data.toList.drop k) = n := ⟨_, rfl⟩
 have hrun0 := Qex s k (k : Int) rfl hk
 obtain ⟨r, hr⟩ : ∃ r, s.extract k s.size = r := ⟨_, rfl⟩
 have hrl : r.data.toList = s.data.toList.drop k := by rw [← hr]; exact Qfz s k
 rw [hr] at hrun0
 have HL := hide (show Calls Tryz.prog 128 #[.string r] ((w.alloc tokZ).alloc fltZ) fun e w' => e = .returned (.int .i64 (n : Int)) ∧ w' = (w.alloc tokZ).alloc fltZ by
  have := Qhb r _ (Qa HSG); rw [hrl, hn] at this; exact this)
 rw [hn] at hle
 clear hr hrl HSG
 by_cases h0 : n = 0
 ·
  have H := hide (show resT k (sgRes (s.data.toList.drop k)) = ⟨0, ⟨#[]⟩, 0, 0, 0, 7, (k : Int)⟩ by unfold sgRes; rw [hn, if_pos h0]; rfl)
  clear hn
  subst h0
  go_enter Tryz.func103, Tryz.ntmps103
  go_wp2_with fail
  refine (Qa HL).mono ?_
  rintro e w1 ⟨rfl, rfl⟩
  go_wp2_with fail
  refine (Qco _ _ _).mono ?_
  rintro e w2 ⟨rfl, b2⟩
  have bx := Qaq (w := w) (w2 := w2) (by simpa using b2)
  have bw : Below w.heap.size w w2 := hb.trans (b2.mono (by simp; omega))
  obtain ⟨x0, x1, x2, x3, y0, y1, fx, fy⟩ := bx
  clear b2 hb
  go_wp2_with fail
  refine bodyPost_ret (v := TV.val ⟨0, ⟨#[]⟩, 0, 0, 0, 7, (k : Int)⟩) (by simp [results, Tryz.results103, go_sem, x0, x1, x2, x3, y0, y1]) rfl ?_
  exact ⟨Qbz (Qa H).symm, Qan bw (Nat.le_refl _) (Nat.le_succ _) _ _ _ _ _ _⟩
 have hrun := Qed s k n (k : Int) ((k : Int) + (n : Int)) rfl (by omega) (by omega)
 obtain ⟨u, hu⟩ : ∃ u, s.extract k (k + n) = u := ⟨_, rfl⟩
 have hul : u.data.toList = (s.data.toList.drop k).take n := by rw [← hu]; exact Qdz s k n
 have husz : u.size ≤ 140737488355328 := by rw [Qbb, hul, List.length_take]; omega
 rw [hu] at hrun
 have H := hide (show resT k (sgRes (s.data.toList.drop k)) = ⟨4, u, 0, (k : Int), (k : Int) + (n : Int), 0, 0⟩ by
  unfold sgRes; rw [hn, if_neg h0, ← hul]; exact Qmd k 4 u 0 n)
 have h0' : ((n : Int) == 0) = false := by rw [beq_eq_false_iff_ne]; omega
 clear hn hu hul
 go_enter Tryz.func103, Tryz.ntmps103
 go_wp2_with fail
 refine (Qa HL).mono ?_
 rintro e w1 ⟨rfl, rfl⟩
 go_wp2_with fail
 refine (Qiq u _ husz).mono ?_
 rintro e w2 ⟨rfl, b2⟩
 have bx := Qaq (w := w) (w2 := w2) (by simpa using b2)
 have bw : Below w.heap.size w w2 := hb.trans (b2.mono (by simp; omega))
 obtain ⟨x0, x1, x2, x3, y0, y1, fx, fy⟩ := bx
 clear b2 hb
 go_wp2_with fail
 refine bodyPost_ret (v := TV.val ⟨4, u, 0, (k : Int), (k : Int) + (n : Int), 0, 0⟩) (by simp [results, Tryz.results103, go_sem, x0, x1, x2, x3, y0, y1]) rfl ?_
 exact ⟨Qbz (Qa H).symm, Qan bw (Nat.le_refl _) (Nat.le_succ _) _ _ _ _ _ _⟩

structure Env (w : World) : Prop where
 sg : SignsAt w
 ml : ∃ m : Int, w.cell? ⟨2, 0, none⟩ = some (.int .i64 m)
 er : ∃ (t : TypeId) (p : Value), w.var? Tryz.prog "strconv.ErrRange" = some #[.iface t p]
theorem Env.later {w w' : World} (h : Env w) (hb : Below w.heap.size w w') : Env w' := by
 obtain ⟨m, hm⟩ := h.ml
 obtain ⟨t, p, hp⟩ := h.er
 exact ⟨h.sg.later hb, ⟨m, (hb.cell (World.block_lt_of_cell? w _ hm)).trans hm⟩, ⟨t, p, Qkc hp hb⟩⟩

theorem Qrg (s : ByteArray) (k : Nat) (hk : k < s.size) (hs : s.size ≤ 65536) (w : World) (hE : Env w) :
  Calls Tryz.prog 70 #[.string s, .int .i64 (k : Int)] w fun e w' => e = .returned (resT k (tokAt (s.data.toList.drop k))).val ∧ Below w.heap.size w w' := by
 have hb := Qdg w
 have hE1 := hE.later hb
 have HT := hide (show tokAt (s.data.toList.drop k) = if isL (bv s[k]) then nmRes (s.data.toList.drop k) else if isD (bv s[k]) then dgRes (s.data.toList.drop k) else if s[k] = 34 then txRes (s.data.toList.drop (k + 1)) else sgRes (s.data.toList.drop k) by
  rw [Qaj s k hk]; exact Qek _ _)
 have HE := hide hE1
 clear hE hE1
 cases hl : isL (s[k].toNat : Int) with
 | true =>
  have H := hide (show tokAt (s.data.toList.drop k) = nmRes (s.data.toList.drop k) by rw [Qa HT, if_pos (show isL (bv s[k]) = true from hl)])
  obtain ⟨T, hT⟩ : ∃ T, resT k (nmRes (s.data.toList.drop k)) = T := ⟨_, rfl⟩
  rw [Qa H, hT]
  have HC := hide (show ∀ w, Calls Tryz.prog 99 #[.string s, .int .i64 (k : Int)] w fun e w' => e = .returned T.val ∧ Below w.heap.size w w' by
   intro w; rw [← hT]; exact Qpo s k (by omega) hs w)
  clear H hT HT
  go_enter Tryz.func70, Tryz.ntmps70
  go_wp2_with fail
  refine (Qb _ _).mono ?_
  rintro e w1 ⟨rfl, rfl⟩
  rw [hl]
  go_wp2_with fail
  refine (Qa HC _).mono ?_
  rintro e w2 ⟨rfl, b2⟩
  have bx := Qaq (w := w) (w2 := w2) (by simpa using b2)
  have bw : Below w.heap.size w w2 := hb.trans (b2.mono (by simp; omega))
  obtain ⟨x0, x1, x2, x3, y0, y1, fx, fy⟩ := bx
  clear b2 hb
  go_wp2_with fail
  refine bodyPost_ret (v := T.val) (by simp [results, Tryz.results70, go_sem, x0, x1, x2, x3, y0, y1]) rfl ?_
  exact ⟨rfl, Qan bw (Nat.le_refl _) (Nat.le_succ _) _ _ _ _ _ _⟩
 | false =>
  cases hd : isD (s[k].toNat : Int) with
  | true =>
   have H := hide (show tokAt (s.data.toList.drop k) = dgRes (s.data.toList.drop k) by rw [Qa HT, if_neg (by rw [show isL (bv s[k]) = false from hl]; simp), if_pos (show isD (bv s[k]) = true from hd)])
   obtain ⟨T, hT⟩ : ∃ T, resT k (dgRes (s.data.toList.drop k)) = T := ⟨_, rfl⟩
   rw [Qa H, hT]
   obtain ⟨t1, p1, hv⟩ := (Qa HE).er
   have HC := hide (show Calls Tryz.prog 101 #[.string s, .int .i64 (k : Int)] ((w.alloc tokZ).alloc fltZ) fun e w' => e = .returned T.val ∧ Below ((w.alloc tokZ).alloc fltZ).heap.size ((w.alloc tokZ).alloc fltZ) w' by
    rw [← hT]; exact Qkp s k hk hd hs _ hv)
   clear H hT HT hv
   go_enter Tryz.func70, Tryz.ntmps70
   go_wp2_with fail
   refine (Qb _ _).mono ?_
   rintro e w1 ⟨rfl, rfl⟩
   rw [hl]
   go_wp2_with fail
   refine (Qck _ _).mono ?_
   rintro e w1 ⟨rfl, rfl⟩
   rw [hd]
   go_wp2_with fail
   refine (Qa HC).mono ?_
   rintro e w2 ⟨rfl, b2⟩
   have bx := Qaq (w := w) (w2 := w2) (by simpa using b2)
   have bw : Below w.heap.size w w2 := hb.trans (b2.mono (by simp; omega))
   obtain ⟨x0, x1, x2, x3, y0, y1, fx, fy⟩ := bx
   clear b2 hb
   go_wp2_with fail
   refine bodyPost_ret (v := T.val) (by simp [results, Tryz.results70, go_sem, x0, x1, x2, x3, y0, y1]) rfl ?_
   exact ⟨rfl, Qan bw (Nat.le_refl _) (Nat.le_succ _) _ _ _ _ _ _⟩
  | false =>
   have H0 := hide (show tokAt (s.data.toList.drop k) = if s[k] = 34 then txRes (s.data.toList.drop (k + 1)) else sgRes (s.data.toList.drop k) by
    rw [Qa HT, if_neg (by rw [show isL (bv s[k]) = false from hl]; simp), if_neg (by rw [show isD (bv s[k]) = false from hd]; simp)])
   cases e1 : ((s[k].toNat : Int) == 34) with
   | true =>
    have H := hide (show tokAt (s.data.toList.drop k) = txRes (s.data.toList.drop (k + 1)) by rw [Qa H0, if_pos (show s[k] = 34 from (Qdj (k := 34) (by omega)).1 (beq_iff_eq.1 e1))])
    obtain ⟨T, hT⟩ : ∃ T, resT k (txRes (s.data.toList.drop (k + 1))) = T := ⟨_, rfl⟩
    rw [Qa H, hT]
    have HC := hide (show ∀ w, Calls Tryz.prog 102 #[.string s, .int .i64 (k : Int)] w fun e w' => e = .returned T.val ∧ Below w.heap.size w w' by
     intro w; rw [← hT]; exact Qrf s k hk hs w)
    clear H hT HT H0
    go_enter Tryz.func70, Tryz.ntmps70
    go_wp2_with fail
    refine (Qb _ _).mono ?_
    rintro e w1 ⟨rfl, rfl⟩
    rw [hl]
    go_wp2_with fail
    refine (Qck _ _).mono ?_
    rintro e w1 ⟨rfl, rfl⟩
    rw [hd]
    go_wp2_with fail
    refine (Qa HC _).mono ?_
    rintro e w2 ⟨rfl, b2⟩
    have bx := Qaq (w := w) (w2 := w2) (by simpa using b2)
    have bw : Below w.heap.size w w2 := hb.trans (b2.mono (by simp; omega))
    obtain ⟨x0, x1, x2, x3, y0, y1, fx, fy⟩ := bx
    clear b2 hb
    go_wp2_with fail
    refine bodyPost_ret (v := T.val) (by simp [results, Tryz.results70, go_sem, x0, x1, x2, x3, y0, y1]) rfl ?_
    exact ⟨rfl, Qan bw (Nat.le_refl _) (Nat.le_succ _) _ _ _ _ _ _⟩
   | false =>
    have H := hide (show tokAt (s.data.toList.drop k) = sgRes (s.data.toList.drop k) by rw [Qa H0, if_neg (fun e => beq_eq_false_iff_ne.1 e1 (by rw [e]; rfl))])
    obtain ⟨T, hT⟩ : ∃ T, resT k (sgRes (s.data.toList.drop k)) = T := ⟨_, rfl⟩
    rw [Qa H, hT]
    have HC := hide (show Calls Tryz.prog 103 #[.string s, .int .i64 (k : Int)] ((w.alloc tokZ).alloc fltZ) fun e w' => e = .returned T.val ∧ Below ((w.alloc tokZ).alloc fltZ).heap.size ((w.alloc tokZ).alloc fltZ) w' by
     rw [← hT]; exact Qqu s k (by omega) hs _ (Qa HE).sg)
    clear H hT HT H0
    go_enter Tryz.func70, Tryz.ntmps70
    go_wp2_with fail
    refine (Qb _ _).mono ?_
    rintro e w1 ⟨rfl, rfl⟩
    rw [hl]
    go_wp2_with fail
    refine (Qck _ _).mono ?_
    rintro e w1 ⟨rfl, rfl⟩
    rw [hd]
    go_wp2_with fail
    refine (Qa HC).mono ?_
    rintro e w2 ⟨rfl, b2⟩
    have bx := Qaq (w := w) (w2 := w2) (by simpa using b2)
    have bw : Below w.heap.size w w2 := hb.trans (b2.mono (by simp; omega))
    obtain ⟨x0, x1, x2, x3, y0, y1, fx, fy⟩ := bx
    clear b2 hb
    go_wp2_with fail
    refine bodyPost_ret (v := T.val) (by simp [results, Tryz.results70, go_sem, x0, x1, x2, x3, y0, y1]) rfl ?_
    exact ⟨rfl, Qan bw (Nat.le_refl _) (Nat.le_succ _) _ _ _ _ _ _⟩
end
section
open Go.RowKit
def tokVals (t : Tok) : List Value := [.int .i64 t.kind, str t.text, .int .i64 t.num, .int .i64 (t.at_ : Int)]
def tokCells (l : List Tok) : List Value := l.flatMap tokVals
theorem Qdw (l : List Tok) (t : Tok) : tokCells (l ++ [t]) = tokCells l ++ tokVals t := by simp [tokCells]
def Out.toks : Out → List Tok
 | .ok l => l
 | .bad _ _ => []
def Out.why : Out → Int
 | .ok _ => 0
 | .bad w _ => w
def Out.fa : Out → Int
 | .ok _ => 0
 | .bad _ a => (a : Int)
def lexP (l : Txt) : Out := if 65536 < l.length then .bad 2 0 else scan 0 l
def TokAns (o : Out) (w w2 : World) (e : Ending) : Prop := ∃ v, e = .returned (.tuple #[v, .agg #[.int .i64 o.why, .int .i64 o.fa]]) ∧ w2.ownsRow w.heap.size 49 4 v o.toks.length (tokCells o.toks) ∧ Below w.heap.size w w2

def GSt (s : ByteArray) (k : Nat) (a why fa : Int) : Prop :=
 (why = 0 ∧ fa = 0 ∧ ∃ m : Nat, a = (m : Int) ∧ k ≤ m ∧ m ≤ s.size ∧ gapAt (s.data.toList.drop m) = .none ∧ scan k (s.data.toList.drop k) = scan m (s.data.toList.drop m)) ∨
 (why = 7 ∧ a = 0 ∧ ∃ m : Nat, fa = (m : Int) ∧ scan k (s.data.toList.drop k) = .bad 7 m)
theorem Qop {s : ByteArray} {k : Nat} {e : Ending} (h : GapEnd s k e) : ∃ a why fa, e = .returned (.tuple #[.int .i64 a, .agg #[.int .i64 why, .int .i64 fa]]) ∧ GSt s k a why fa := by
 obtain ⟨m, hg, ⟨h1, rfl⟩ | ⟨h1, rfl⟩⟩ := h
 · exact ⟨_, _, _, rfl, .inr ⟨rfl, rfl, m, rfl, by rw [hg.2.2, Qdo h1]⟩⟩
 · exact ⟨_, _, _, rfl, .inl ⟨rfl, rfl, m, rfl, hg.1, hg.2.1, h1, hg.2.2⟩⟩

structure TkInv (s : ByteArray) (w : World) (fb : Nat) (v : Value) (wr : World) (toks : List Tok) (a why fa : Int) : Prop where
 own : wr.ownsRow (w.heap.size + 1) 49 4 v toks.length (tokCells toks)
 bel : Below w.heap.size w wr
 rb : wr.heap[w.heap.size]? = some fltZ
 fbx : wr.heap[fb]? = some (.cells #[.int .i64 why, .int .i64 fa] 31)
 fb1 : w.heap.size + 1 ≤ fb
 st : (why = 0 ∧ fa = 0 ∧ ∃ m : Nat, a = (m : Int) ∧ m ≤ s.size ∧ toks.length ≤ m ∧ gapAt (s.data.toList.drop m) = .none ∧ scan 0 s.data.toList = (scan m (s.data.toList.drop m)).app toks) ∨
  (why = 7 ∧ a = 0 ∧ ∃ m : Nat, fa = (m : Int) ∧ scan 0 s.data.toList = .bad 7 m)
def TkRel (s : ByteArray) (w : World) (fb : Nat) (v i : Value) (wr : World) : Prop :=
 ∃ (toks : List Tok) (a why fa : Int), i = .int .i64 a ∧ Hid (TkInv s w fb v wr toks a why fa)
def fltOf : Option Value → Int
 | some (.int _ q) => q
 | _ => 1
def tkMu (n fb : Nat) (i : Value) (wr : World) : Nat := if fltOf (wr.cell? ⟨fb, 0, none⟩) = 0 then n + 1 - (intOf i).toNat else 0

theorem Qst {s : ByteArray} {w w1 : World} {a why fa : Int} (b1 : Below (w.heap.size + 1) (w.alloc fltZ) w1) (hg : GSt s 0 a why fa) :
  TkInv s w w1.heap.size (.slice none 0 0) (w1.alloc (.cells #[.int .i64 why, .int .i64 fa] 31)) [] a why fa := by
 have hs := b1.size
 simp at hs
 refine ⟨World.ownsRow_nil _ _ _ _, ?_, ?_, heap_alloc_new w1 _, hs, ?_⟩
 · exact (((Below.refl w.heap.size w).alloc (Nat.le_refl _) _).trans (b1.mono (by omega))).alloc (by omega) _
 ·
  rw [Lib.alloc_old w1 _ _ (by omega), b1.block _ (by omega)]
  exact heap_alloc_new w _
 rcases hg with ⟨h1, h2, m, h3, _, h5, h6, h7⟩ | ⟨h1, h2, m, h3, h4⟩
 ·
  refine .inl ⟨h1, h2, m, h3, h5, Nat.zero_le _, h6, ?_⟩
  rw [List.drop_zero] at h7
  rw [h7]
  cases scan m (s.data.toList.drop m) <;> rfl
 · exact .inr ⟨h1, h2, m, h3, by rw [List.drop_zero] at h4; exact h4⟩

theorem Qld (s : ByteArray) (hl : 65536 < s.size) (hs : s.size ≤ 281474976710656) (w : World) :
  Calls Tryz.prog 35 #[.string s] w fun e w' => TokAns (lexP s.data.toList) w w' e := by
 have H := hide (show lexP s.data.toList = .bad 2 0 by unfold lexP; rw [← Qbb, if_pos hl])
 go_enter Tryz.func35, Tryz.ntmps35
 go_wp2_with fail
 refine bodyPost_ret (v := .tuple #[.slice none 0 0, .agg #[.int .i64 2, .int .i64 0]]) (by simp [results, Tryz.results35, go_sem]) rfl ?_
 rw [Qa H]
 exact ⟨_, rfl, World.ownsRow_nil _ _ _ _, (Below.refl _ w).alloc (Nat.le_refl _) _⟩

theorem Qpv {w wr w2 : World} {v : Value} {toks : List Tok} (h : wr.ownsRow (w.heap.size + 1) 49 4 v toks.length (tokCells toks))
  (hb : ∀ k, w.heap.size + 1 ≤ k → w2.heap[k]? = wr.heap[k]?) : w2.ownsRow w.heap.size 49 4 v toks.length (tokCells toks) := by
 refine ⟨h.1, ?_⟩
 rcases h.2 with h | ⟨g, cap, cur, hv, hg, hh, h4, h5, h6, h7⟩
 · exact .inl h
 · exact .inr ⟨g, cap, cur, hv, by omega, by rw [hb g hg]; exact hh, h4, h5, h6, h7⟩

theorem infoTok : (Tryz.prog.info? 49).map (fun i => (i.zero, i.size, i.bytes)) = some (some (.agg #[.int .i64 0, .string ⟨#[]⟩, .int .i64 0, .int .i64 0]), 4, 40) := by kernel_rfl
theorem Qep : ∃ i0 : TypeInfo, Tryz.prog.info? 49 = some i0 ∧ i0.zero = some (.agg #[.int .i64 0, .string ⟨#[]⟩, .int .i64 0, .int .i64 0]) ∧ i0.size = 4 ∧ i0.bytes = 40 := by
 obtain ⟨i0, hi, hi3⟩ := Option.map_eq_some_iff.1 infoTok
 simp only [Prod.mk.injEq] at hi3
 exact ⟨i0, hi, hi3⟩
abbrev six (w : World) (b c : Nat) (q0 q1 q2 q3 q4 q5 : Value) : World :=
 (((((w.setCell ⟨b, 0, none⟩ q0).setCell ⟨b, 1, none⟩ q1).setCell ⟨b, 2, none⟩ q2).setCell ⟨b, 3, none⟩ q3).setCell ⟨c, 0, none⟩ q4).setCell ⟨c, 1, none⟩ q5
theorem Qgu (w : World) (b c : Nat) (q0 q1 q2 q3 q4 q5 : Value) (k : Nat) (hb : k ≠ b) (hc : k ≠ c) : (six w b c q0 q1 q2 q3 q4 q5).heap[k]? = w.heap[k]? := by
 rw [heap_setCell_other _ _ _ _ hc, heap_setCell_other _ _ _ _ hc, heap_setCell_other _ _ _ _ hb, heap_setCell_other _ _ _ _ hb, heap_setCell_other _ _ _ _ hb, heap_setCell_other _ _ _ _ hb]
theorem Ql (w : World) (b c : Nat) (q0 q1 q2 q3 q4 q5 p0 p1 : Value) (hne : c ≠ b) (h : w.heap[c]? = some (.cells #[p0, p1] 31)) : (six w b c q0 q1 q2 q3 q4 q5).heap[c]? = some (.cells #[q4, q5] 31) := by
 have h0 : ((((w.setCell ⟨b, 0, none⟩ q0).setCell ⟨b, 1, none⟩ q1).setCell ⟨b, 2, none⟩ q2).setCell ⟨b, 3, none⟩ q3).heap[c]? = some (.cells #[p0, p1] 31) := by
  rw [heap_setCell_other _ _ _ _ hne, heap_setCell_other _ _ _ _ hne, heap_setCell_other _ _ _ _ hne, heap_setCell_other _ _ _ _ hne, h]
 have h1 := heap_setCell_same _ c 0 _ _ q4 h0
 exact heap_setCell_same _ c 1 _ _ q5 h1
theorem Qik (w : World) (c : Nat) (q4 q5 p0 p1 : Value) (h : w.heap[c]? = some (.cells #[p0, p1] 31)) : ((w.setCell ⟨c, 0, none⟩ q4).setCell ⟨c, 1, none⟩ q5).heap[c]? = some (.cells #[q4, q5] 31) :=
 heap_setCell_same _ c 1 _ _ q5 (heap_setCell_same _ c 0 _ _ q4 h)
theorem Qia {w w' : World} {B : Nat} {v : Value} {n : Nat} {xs : List Value} (h : w.ownsRow B 49 4 v n xs) (hb : ∀ (g : Nat) (cur : Array Value), w.heap[g]? = some (.cells cur 49) → w'.heap[g]? = w.heap[g]?) : w'.ownsRow B 49 4 v n xs := by
 refine ⟨h.1, ?_⟩
 rcases h.2 with h | ⟨g, cap, cur, hv, hg, hh, h4, h5, h6, h7⟩
 · exact .inl h
 · exact .inr ⟨g, cap, cur, hv, hg, by rw [hb g cur hh]; exact hh, h4, h5, h6, h7⟩
theorem Qjh {w : World} {B : Nat} {v : Value} {n : Nat} {xs : List Value} (h : w.ownsRow B 49 4 v n xs) {g : Nat} (hg : v.ownBlock = some g) : ∃ cur, w.heap[g]? = some (.cells cur 49) := by
 rcases h.2 with ⟨rfl, _⟩ | ⟨g', cap, cur, rfl, _, hh, _⟩
 · cases hg
 injection hg with hg
 subst hg
 exact ⟨cur, hh⟩
theorem own_six {wr w2 : World} {fb : Nat} {p0 p1 : Value} {B : Nat} {v : Value} {n : Nat} {xs : List Value} (h : wr.ownsRow B 49 4 v n xs) (hF : wr.heap[fb]? = some (.cells #[p0, p1] 31))
  (b2 : Below (wr.heap.size + 1) (wr.alloc tokZ) w2) (q0 q1 q2 q3 q4 q5 : Value) : (six w2 wr.heap.size fb q0 q1 q2 q3 q4 q5).ownsRow B 49 4 v n xs := by
 refine Qia h fun g cur hg => ?_
 have hlt : g < wr.heap.size := (Array.getElem?_eq_some_iff.1 hg).1
 have hne : g ≠ fb := by
  rintro rfl
  rw [hF] at hg
  injection hg with hg
  injection hg with _ hg _
  exact absurd hg (by decide)
 rw [Qgu _ _ _ _ _ _ _ _ _ g (by omega) hne, b2.block _ (by omega), Lib.alloc_old wr _ _ hlt]
theorem Qfd (wr : World) (q0 q1 q2 q3 : Value) : ∀ j u, ([q0, q1, q2, q3] : List Value)[j]? = some u → (wr.alloc (.cells #[q0, q1, q2, q3] 49)).cell? ((⟨wr.heap.size, 0, none⟩ : Addr).add j) = some u := by
 intro j u hj
 match j, hj with
 | 0, hj => simp at hj; subst hj; simp [Addr.add]
 | 1, hj => simp at hj; subst hj; simp [Addr.add]
 | 2, hj => simp at hj; subst hj; simp [Addr.add]
 | 3, hj => simp at hj; subst hj; simp [Addr.add]
theorem Qgx (k n m : Int) (b : ByteArray) : ∀ u ∈ ([.int .i64 k, .string b, .int .i64 n, .int .i64 m] : List Value), u.oneCell' = true := by
 intro u hu
 simp at hu
 rcases hu with rfl | rfl | rfl | rfl <;> rfl
theorem Qmq (s : ByteArray) (k : Nat) (a ml : Int) (ha : a = (k : Int)) (hk : k ≤ s.size) (hs : s.size ≤ 65536) (w : World) (hm : w.cell? ⟨2, 0, none⟩ = some (.int .i64 ml)) :
  Calls Tryz.prog 69 #[.string s, .int .i64 a] w fun e w' => GapEnd s k e ∧ Below w.heap.size w w' := by
 subst ha
 exact Qgj s k ml hk hs w hm
theorem Qfg (toks : List Tok) (o : Out) (w : Int) (a : Nat) (h : o = .bad w a) : o.app toks = .bad w a := by subst h; rfl

theorem tk_mid {s : ByteArray} {w wr w2 w4 : World} {fb m : Nat} {v : Value} {toks : List Tok} {kd nm : Int} {tx : Txt}
  (h : TkInv s w fb v wr toks (m : Int) 0 0)
  (b2 : Below (wr.heap.size + 1) (wr.alloc tokZ) w2)
  (hgrow : ((six w2 wr.heap.size fb (.int .i64 kd) (.string ⟨tx.toArray⟩) (.int .i64 nm) (.int .i64 (m : Int)) (.int .i64 0) (.int .i64 0)).alloc (.cells #[.int .i64 kd, .string ⟨tx.toArray⟩, .int .i64 nm, .int .i64 (m : Int)] 49)).grownBy w4 v.ownBlock) :
  Below w.heap.size w w4 ∧ w4.heap[fb]? = some (.cells #[.int .i64 0, .int .i64 0] 31) := by
 have hfl : fb < wr.heap.size := (Array.getElem?_eq_some_iff.1 h.fbx).1
 have hbs := h.bel.size
 have hfb := h.fb1
 have h2s := b2.size
 simp at h2s
 have hF : ∀ cur, ¬ wr.heap[fb]? = some (.cells cur 49) := fun cur hc => by
  rw [h.fbx] at hc
  injection hc with hc
  injection hc with _ hc _
  exact absurd hc (by decide)
 have hvb : ∀ g, v.ownBlock = some g → w.heap.size + 1 ≤ g ∧ g < wr.heap.size ∧ g ≠ fb := fun g hg => by
  obtain ⟨cur, hc⟩ := Qjh h.own hg
  exact ⟨(h.own.lt g hg).1, (h.own.lt g hg).2, fun e => hF cur (by rw [← e]; exact hc)⟩
 have hgs := hgrow.size
 simp at hgs
 have f4 : w4.heap[fb]? = some (.cells #[.int .i64 0, .int .i64 0] 31) := by
  rw [hgrow.block fb (by simp; omega) (fun e => (hvb fb e.symm).2.2 rfl), Lib.alloc_old _ _ _ (by simp; omega)]
  refine Ql _ _ _ _ _ _ _ _ _ (.int .i64 0) (.int .i64 0) (by omega) ?_
  rw [b2.block _ (by omega), Lib.alloc_old wr _ _ hfl]
  exact h.fbx
 have bel2 : Below w.heap.size w w2 := (h.bel.alloc (by omega) _).trans (b2.mono (by omega))
 have bel4 : Below w.heap.size w w4 :=
  ((Qan bel2 (b := wr.heap.size) (c := fb) (by omega) (by omega) _ _ _ _ _ _).alloc (by simp; omega) _).grown hgrow (by simp; omega) (fun g hg => by have := (hvb g hg).1; omega)
 exact ⟨bel4, f4⟩

theorem tk_next {s : ByteArray} {w wr w2 w4 w5 : World} {fb m n : Nat} {v v' : Value} {toks : List Tok} {kd nm : Int} {tx : Txt} {a why fa : Int}
  (h : TkInv s w fb v wr toks (m : Int) 0 0) (hn : 0 < n) (htl : toks.length ≤ m) (hgap : gapAt (s.data.toList.drop m) = .none) (ht : tokAt (s.data.toList.drop m) = .tok kd tx nm n)
  (hsc : scan 0 s.data.toList = (scan m (s.data.toList.drop m)).app toks)
  (b2 : Below (wr.heap.size + 1) (wr.alloc tokZ) w2)
  (hown : w4.ownsRow (w.heap.size + 1) 49 4 v' (toks.length + 1) (tokCells toks ++ [.int .i64 kd, .string ⟨tx.toArray⟩, .int .i64 nm, .int .i64 (m : Int)]))
  (hgrow : ((six w2 wr.heap.size fb (.int .i64 kd) (.string ⟨tx.toArray⟩) (.int .i64 nm) (.int .i64 (m : Int)) (.int .i64 0) (.int .i64 0)).alloc (.cells #[.int .i64 kd, .string ⟨tx.toArray⟩, .int .i64 nm, .int .i64 (m : Int)] 49)).grownBy w4 v.ownBlock)
  (b5 : Below w4.heap.size w4 w5) (hg : GSt s (m + n) a why fa) :
  TkInv s w fb v' ((w5.setCell ⟨fb, 0, none⟩ (.int .i64 why)).setCell ⟨fb, 1, none⟩ (.int .i64 fa)) (toks ++ [⟨kd, tx, nm, m⟩]) a why fa ∧ ((why = 0 → (m : Int) < a) ∧ (why = 0 ∨ why = 7)) := by
 have hfl : fb < wr.heap.size := (Array.getElem?_eq_some_iff.1 h.fbx).1
 have hbs := h.bel.size
 have hfb := h.fb1
 have h2s := b2.size
 simp at h2s
 have hF : ∀ cur, ¬ wr.heap[fb]? = some (.cells cur 49) := fun cur hc => by
  rw [h.fbx] at hc
  injection hc with hc
  injection hc with _ hc _
  exact absurd hc (by decide)
 have hvb : ∀ g, v.ownBlock = some g → w.heap.size + 1 ≤ g ∧ g < wr.heap.size ∧ g ≠ fb := fun g hg => by
  obtain ⟨cur, hc⟩ := Qjh h.own hg
  exact ⟨(h.own.lt g hg).1, (h.own.lt g hg).2, fun e => hF cur (by rw [← e]; exact hc)⟩
 have hgs := hgrow.size
 simp at hgs
 have f4 : w4.heap[fb]? = some (.cells #[.int .i64 0, .int .i64 0] 31) := by
  rw [hgrow.block fb (by simp; omega) (fun e => (hvb fb e.symm).2.2 rfl), Lib.alloc_old _ _ _ (by simp; omega)]
  refine Ql _ _ _ _ _ _ _ _ _ (.int .i64 0) (.int .i64 0) (by omega) ?_
  rw [b2.block _ (by omega), Lib.alloc_old wr _ _ hfl]
  exact h.fbx
 have r4 : w4.heap[w.heap.size]? = some fltZ := by
  rw [hgrow.block _ (by simp; omega) (fun e => by have := (hvb _ e.symm).1; omega), Lib.alloc_old _ _ _ (by simp; omega),
   Qgu _ _ _ _ _ _ _ _ _ _ (by omega) (by omega), b2.block _ (by omega), Lib.alloc_old wr _ _ (by omega)]
  exact h.rb
 have bel2 : Below w.heap.size w w2 := (h.bel.alloc (by omega) _).trans (b2.mono (by omega))
 have bel4 : Below w.heap.size w w4 :=
  ((Qan bel2 (b := wr.heap.size) (c := fb) (by omega) (by omega) _ _ _ _ _ _).alloc (by simp; omega) _).grown hgrow (by simp; omega) (fun g hg => by have := (hvb g hg).1; omega)
 have hfl4 : fb < w4.heap.size := by omega
 have f5 : w5.heap[fb]? = some (.cells #[.int .i64 0, .int .i64 0] 31) := by rw [b5.block _ hfl4]; exact f4
 have n1 : w.heap.size ≠ fb := by omega
 refine ⟨⟨?_, ?_, ?_, Qik _ _ _ _ _ _ f5, h.fb1, ?_⟩, ?_, ?_⟩
 ·
  have e : tokCells (toks ++ [⟨kd, tx, nm, m⟩]) = tokCells toks ++ [.int .i64 kd, .string ⟨tx.toArray⟩, .int .i64 nm, .int .i64 (m : Int)] := Qdw _ _
  rw [e, List.length_append]
  refine Qia hown fun g cur hg => ?_
  have hg4 : g < w4.heap.size := (Array.getElem?_eq_some_iff.1 hg).1
  have hne : g ≠ fb := by
   rintro rfl
   rw [f4] at hg
   injection hg with hg
   injection hg with _ hg _
   exact absurd hg (by decide)
  rw [heap_setCell_other _ _ _ _ hne, heap_setCell_other _ _ _ _ hne, b5.block _ hg4]
 · exact ((bel4.trans (b5.mono bel4.size)).setCell (p := ⟨fb, 0, none⟩) (by show w.heap.size ≤ fb; omega) _).setCell (p := ⟨fb, 1, none⟩) (by show w.heap.size ≤ fb; omega) _
 ·
  rw [heap_setCell_other _ _ _ _ n1, heap_setCell_other _ _ _ _ n1, b5.block _ (by omega)]
  exact r4
 ·
  have hs1 : scan 0 s.data.toList = (scan (m + n) (s.data.toList.drop (m + n))).app (toks ++ [⟨kd, tx, nm, m⟩]) := by
   rw [hsc, Qfa hgap ht, Qle, List.drop_drop]
  rcases hg with ⟨h1, h2, j, h3, h4, h5, h6, h7⟩ | ⟨h1, h2, j, h3, h4⟩
  · exact .inl ⟨h1, h2, j, h3, h5, by rw [List.length_append]; simp; omega, h6, by rw [hs1, h7]⟩
  · exact .inr ⟨h1, h2, j, h3, by rw [hs1]; exact Qfg _ _ _ _ h4⟩
 ·
  intro h0
  rcases hg with ⟨h1, h2, j, h3, h4, h5, h6, h7⟩ | ⟨h1, h2, j, h3, h4⟩
  · omega
  · omega
 rcases hg with h | h
 · exact .inl h.1
 · exact .inr h.1
end
section
open Go.RowKit
def tkStore (p v : Value) : Sem Unit := Instr.storeAt 49 p v
theorem Qfp (p v : Value) : Instr.storeAt 49 p v = tkStore p v := rfl
def flStore (p v : Value) : Sem Unit := Instr.storeAt 31 p v
theorem Qhl (p v : Value) : Instr.storeAt 31 p v = flStore p v := rfl
def tkLoad (x : Value) : Sem Value := Instr.loadAt 49 x
theorem Qgm (x : Value) : Instr.loadAt 49 x = tkLoad x := rfl
def flLoad (x : Value) : Sem Value := Instr.loadAt 31 x
theorem Qjd (x : Value) : Instr.loadAt 31 x = flLoad x := rfl
theorem Qlc : (Tryz.prog.info? 49).map (·.size) = some 4 := by kernel_rfl
theorem Qla : (Tryz.prog.info? 31).map (·.size) = some 2 := by kernel_rfl

theorem Qta (w : World) (a b : Int) : (flStore (.pointer (some ⟨w.heap.size, 0, none⟩)) (.agg #[.int .i64 a, .int .i64 b])).run Tryz.prog (w.alloc (.cells #[.int .i64 0, .int .i64 0] 31)) = .ok () (w.alloc (.cells #[.int .i64 a, .int .i64 b] 31)) :=
 run_storeAt_new w 31 _ _ Qla rfl (by simp [Value.oneCell'])
theorem Qg {w : World} {b : Nat} {p0 p1 : Value} (h : w.heap[b]? = some (.cells #[p0, p1] 31)) (q0 q1 : Int) :
  (flStore (.pointer (some ⟨b, 0, none⟩)) (.agg #[.int .i64 q0, .int .i64 q1])).run Tryz.prog w = .ok () ((w.setCell ⟨b, 0, none⟩ (.int .i64 q0)).setCell ⟨b, 1, none⟩ (.int .i64 q1)) := by
 refine run_storeAt_mid w b 0 31 #[.int .i64 q0, .int .i64 q1] (fun j hj => ⟨?_, Lib.frozen_of_heap h _⟩) Qla (by simp [Value.oneCell'])
 have hj : j < 2 := hj
 rw [Lib.cell_of_heap h]
 rcases (by omega : j = 0 ∨ j = 1) with rfl | rfl <;> rfl
theorem Qmg {w : World} {b : Nat} {p0 p1 p2 p3 : Value} (h : w.heap[b]? = some (.cells #[p0, p1, p2, p3] 49)) (k n a : Int) (t : ByteArray) :
  (tkStore (.pointer (some ⟨b, 0, none⟩)) (.agg #[.int .i64 k, .string t, .int .i64 n, .int .i64 a])).run Tryz.prog w =
   .ok () ((((w.setCell ⟨b, 0, none⟩ (.int .i64 k)).setCell ⟨b, 1, none⟩ (.string t)).setCell ⟨b, 2, none⟩ (.int .i64 n)).setCell ⟨b, 3, none⟩ (.int .i64 a)) := by
 refine run_storeAt_mid w b 0 49 #[.int .i64 k, .string t, .int .i64 n, .int .i64 a] (fun j hj => ⟨?_, Lib.frozen_of_heap h _⟩) Qlc (by simp [Value.oneCell'])
 have hj : j < 4 := hj
 rw [Lib.cell_of_heap h]
 rcases (by omega : j = 0 ∨ j = 1 ∨ j = 2 ∨ j = 3) with rfl | rfl | rfl | rfl <;> rfl
theorem Qcp {w : World} {b : Nat} {q0 q1 : Value} (h : w.heap[b]? = some (.cells #[q0, q1] 31)) :
  (flLoad (.pointer (some ⟨b, 0, none⟩))).run Tryz.prog w = .ok (.agg #[q0, q1]) w := by
 refine run_loadAt_mid w b 0 31 [q0, q1] _ (fun q v hq => ?_) Tryz.underlying31 rfl Qla
 rw [Lib.cell_of_heap h, Nat.zero_add, ← hq]
 simp
theorem Qgv {w : World} {b : Nat} {q0 q1 q2 q3 : Value} (h : w.heap[b]? = some (.cells #[q0, q1, q2, q3] 49)) :
  (tkLoad (.pointer (some ⟨b, 0, none⟩))).run Tryz.prog w = .ok (.agg #[q0, q1, q2, q3]) w := by
 refine run_loadAt_mid w b 0 49 [q0, q1, q2, q3] _ (fun q v hq => ?_) Tryz.underlying49 rfl Qlc
 rw [Lib.cell_of_heap h, Nat.zero_add, ← hq]
 simp
theorem six_tok (w : World) (b c : Nat) (q0 q1 q2 q3 q4 q5 p0 p1 p2 p3 : Value) (hne : b ≠ c) (h : w.heap[b]? = some (.cells #[p0, p1, p2, p3] 49)) : (six w b c q0 q1 q2 q3 q4 q5).heap[b]? = some (.cells #[q0, q1, q2, q3] 49) := by
 rw [heap_setCell_other _ _ _ _ hne, heap_setCell_other _ _ _ _ hne]
 exact heap_setCell_same _ b 3 _ _ q3 (heap_setCell_same _ b 2 _ _ q2 (heap_setCell_same _ b 1 _ _ q1 (heap_setCell_same _ b 0 _ _ q0 h)))

structure Wrote (w wr w2 w4 : World) (fb : Nat) (T : TV) : Prop where
 eq : w4 = six w2 wr.heap.size fb (.int .i64 T.kd) (.string T.tx) (.int .i64 T.nm) (.int .i64 T.at_) (.int .i64 T.why) (.int .i64 T.fa)
 ft : w4.heap[wr.heap.size]? = some (.cells #[.int .i64 T.kd, .string T.tx, .int .i64 T.nm, .int .i64 T.at_] 49)
 ff : w4.heap[fb]? = some (.cells #[.int .i64 T.why, .int .i64 T.fa] 31)
 fr : w4.heap[w.heap.size]? = some fltZ
 bel : Below w.heap.size w w4
theorem wrote {s : ByteArray} {w wr w2 : World} {fb : Nat} {v : Value} {toks : List Tok} {a : Int} (h : TkInv s w fb v wr toks a 0 0) (b2 : Below (wr.heap.size + 1) (wr.alloc tokZ) w2) (T : TV) :
  ∃ w3 w4, (tkStore (.pointer (some ⟨wr.heap.size, 0, none⟩)) (.agg #[.int .i64 T.kd, .string T.tx, .int .i64 T.nm, .int .i64 T.at_])).run Tryz.prog w2 = .ok () w3 ∧
   (flStore (.pointer (some ⟨fb, 0, none⟩)) (.agg #[.int .i64 T.why, .int .i64 T.fa])).run Tryz.prog w3 = .ok () w4 ∧ Wrote w wr w2 w4 fb T := by
 have hsz := h.bel.size
 have hfb := h.fb1
 have hfl : fb < wr.heap.size := (Array.getElem?_eq_some_iff.1 h.fbx).1
 have bxT : w2.heap[wr.heap.size]? = some tokZ := by rw [b2.block _ (by omega)]; exact heap_alloc_new wr _
 have bxF : w2.heap[fb]? = some (.cells #[.int .i64 0, .int .i64 0] 31) := by rw [b2.block _ (by omega), Lib.alloc_old wr _ _ hfl]; exact h.fbx
 have bxR : w2.heap[w.heap.size]? = some fltZ := by rw [b2.block _ (by omega), Lib.alloc_old wr _ _ (by omega)]; exact h.rb
 have n1 : fb ≠ wr.heap.size := by omega
 have e3 : ((((w2.setCell ⟨wr.heap.size, 0, none⟩ (.int .i64 T.kd)).setCell ⟨wr.heap.size, 1, none⟩ (.string T.tx)).setCell ⟨wr.heap.size, 2, none⟩ (.int .i64 T.nm)).setCell ⟨wr.heap.size, 3, none⟩ (.int .i64 T.at_)).heap[fb]? = some (.cells #[.int .i64 0, .int .i64 0] 31) := by
  rw [heap_setCell_other _ _ _ _ n1, heap_setCell_other _ _ _ _ n1, heap_setCell_other _ _ _ _ n1, heap_setCell_other _ _ _ _ n1, bxF]
 have bel2 : Below w.heap.size w w2 := (h.bel.alloc (by omega) _).trans (b2.mono (by omega))
 exact ⟨_, _, Qmg bxT _ _ _ _, Qg e3 _ _, ⟨rfl, six_tok _ _ _ _ _ _ _ _ _ _ _ _ _ n1.symm bxT, Ql _ _ _ _ _ _ _ _ _ _ _ n1 bxF,
  by rw [Qgu _ _ _ _ _ _ _ _ _ _ (by omega) (by omega)]; exact bxR, Qan bel2 (by omega) (by omega) _ _ _ _ _ _⟩⟩
theorem last {w wr : World} (hb : Below w.heap.size w wr) (hr : wr.heap[w.heap.size]? = some fltZ) (p q : Int) :
  ∃ w9, (flStore (.pointer (some ⟨w.heap.size, 0, none⟩)) (.agg #[.int .i64 p, .int .i64 q])).run Tryz.prog wr = .ok () w9 ∧ w9.cell? ⟨w.heap.size, 0, none⟩ = some (.int .i64 p) ∧ w9.cell? ⟨w.heap.size, 1, none⟩ = some (.int .i64 q) ∧
   Below w.heap.size w w9 ∧ (∀ k, w.heap.size + 1 ≤ k → w9.heap[k]? = wr.heap[k]?) := by
 have h9 := Qik wr w.heap.size (.int .i64 p) (.int .i64 q) _ _ hr
 refine ⟨_, Qg hr p q, by rw [Lib.cell_of_heap h9]; rfl, by rw [Lib.cell_of_heap h9]; rfl, (hb.setCell (p := ⟨w.heap.size, 0, none⟩) (Nat.le_refl _) _).setCell (p := ⟨w.heap.size, 1, none⟩) (Nat.le_refl _) _, fun k hk => ?_⟩
 rw [heap_setCell_other _ _ _ _ (by show k ≠ w.heap.size; omega), heap_setCell_other _ _ _ _ (by show k ≠ w.heap.size; omega)]

attribute [local go_sem ↓] Qfp Qhl Qgm Qjd
theorem Qnj (s : ByteArray) (hs : s.size ≤ 65536) (w : World) (hE : Env w) :
  Calls Tryz.prog 35 #[.string s] w fun e w' => TokAns (lexP s.data.toList) w w' e := by
 have H := hide (show lexP s.data.toList = scan 0 s.data.toList by unfold lexP; rw [← Qbb, if_neg (by omega)])
 have hb0 : Below w.heap.size w (w.alloc fltZ) := (Below.refl w.heap.size w).alloc (Nat.le_refl _) _
 obtain ⟨ml, hml⟩ := (hE.later hb0).ml
 have HG := hide (Qgj s 0 ml (Nat.zero_le _) hs (w.alloc fltZ) hml)
 have HE := hide hE
 clear hml hE hb0
 go_enter Tryz.func35, Tryz.ntmps35
 go_wp2_with fail
 refine (Qa HG).mono ?_
 rintro e w1 ⟨hge, b1⟩
 obtain ⟨a, why, fa, rfl, hst⟩ := Qop hge
 have HT := hide (Qst (by simpa using b1) hst)
 have hS0 := Qta w1 why fa
 obtain ⟨wr0, hwr0⟩ : ∃ wr0, w1.alloc (.cells #[.int .i64 why, .int .i64 fa] 31) = wr0 := ⟨_, rfl⟩
 rw [hwr0] at HT hS0
 clear hge b1 hst HG hwr0
 go_wp2_with fail
 obtain ⟨fb, hfb2⟩ : ∃ fb, w1.heap.size = fb := ⟨_, rfl⟩
 rw [hfb2] at HT
 rw [hfb2]
 clear hS0 hfb2
 go_loopw [4, 5] (fun v i wr => TkRel s w fb v i wr) (fun _ i wr => tkMu s.size fb i wr)
 case atStart => exact ⟨[], a, why, fa, rfl, HT⟩
 clear HT
 obtain ⟨toks, a, why, fa, rfl, HH⟩ := hrel
 have c0 : wr.cell? ⟨fb, 0, none⟩ = some (.int .i64 why) := by rw [Lib.cell_of_heap (Qa HH).fbx]; rfl
 rcases (Qa HH).st with ⟨rfl, rfl, m, rfl, hms, htl, hgap, hsc⟩ | ⟨rfl, rfl, m, rfl, hsc⟩
 ·
  by_cases hlt : m < s.size
  ·
   have hsz := (Qa HH).bel.size
   have hEr := (Qa HE).later (Qa HH).bel
   have HTK := hide (Qrg s m hlt hs (wr.alloc tokZ) (hEr.later ((Below.refl wr.heap.size wr).alloc (Nat.le_refl _) _)))
   have HHH := HH
   clear hEr HH
   go_wp2_with fail
   refine (Qa HTK).mono ?_
   rintro e w2 ⟨rfl, b2⟩
   have b2' : Below (wr.heap.size + 1) (wr.alloc tokZ) w2 := by simpa using b2
   clear b2 HTK c0
   cases ht : tokAt (s.data.toList.drop m) with
   | bad why o =>
    have hwz2 : (why != 0) = true := bne_iff_ne.2 (Qij ht).1
    have HSC := hide (show scan 0 s.data.toList = .bad why (m + o) by
     rw [hsc]; exact Qfg _ _ _ _ (Qdc (by rw [Qaj s m hlt]; simp) hgap ht))
    obtain ⟨w3, w4, hS1, hS2, hW⟩ := wrote (Qa HHH) b2' (resT m (.bad why o))
    have c0 : w4.cell? ⟨fb, 0, none⟩ = some (.int .i64 why) := by rw [Lib.cell_of_heap hW.ff]; rfl
    have hL := Qcp (w := w4.drew) hW.ff
    obtain ⟨w9, hS9, z0, z1, bw, _⟩ := last (wr := w4.drew) hW.bel.drew hW.fr why ((m + o : Nat) : Int)
    have e : resT m (.bad why o) = ⟨0, ⟨#[]⟩, 0, 0, 0, why, ((m + o : Nat) : Int)⟩ := rfl
    rw [e] at hS1 hS2 hL ⊢
    obtain ⟨q, hq⟩ : ∃ q : Int, ((m + o : Nat) : Int) = q := ⟨_, rfl⟩
    rw [hq] at hS1 hS2 hS9 z1 hL ⊢
    have HQ := hide hq
    clear hsc hgap ht HHH hW b2' e hq
    go_wp2_with fail
    go_region
    all_goals
     go_wp2_with fail
     refine bodyPost_ret (v := .tuple #[.slice none 0 0, .agg #[.int .i64 why, .int .i64 q]]) (by simp [results, Tryz.results35, go_sem, z0, z1]) rfl ?_
     rw [Qa H, Qa HSC, ← Qa HQ]
     exact ⟨_, rfl, World.ownsRow_nil _ _ _ _, bw⟩
   | tok kd tx nm n =>
    have hp := Qdx ht
    rw [Qaw] at hp
    obtain ⟨i0, hi, hz0, hz1, hz2⟩ := Qep
    have HI := hide (show Tryz.prog.info? 49 = some i0 ∧ i0.zero = some (.agg #[.int .i64 0, .string ⟨#[]⟩, .int .i64 0, .int .i64 0]) ∧ i0.size = 4 ∧ i0.bytes = 40 from ⟨hi, hz0, hz1, hz2⟩)
    have HOW := hide (own_six (Qa HHH).own (Qa HHH).fbx b2' (.int .i64 kd) (.string ⟨tx.toArray⟩) (.int .i64 nm) (.int .i64 (m : Int)) (.int .i64 0) (.int .i64 0))
    have e : resT m (.tok kd tx nm n) = ⟨kd, ⟨tx.toArray⟩, nm, (m : Int), (m : Int) + (n : Int), 0, 0⟩ := by simp [resT]
    rw [e]
    obtain ⟨w3, w4, hS1, hS2, hW⟩ := wrote (Qa HHH) b2' ⟨kd, ⟨tx.toArray⟩, nm, (m : Int), (m : Int) + (n : Int), 0, 0⟩
    have c0 : w4.cell? ⟨fb, 0, none⟩ = some (.int .i64 0) := by rw [Lib.cell_of_heap hW.ff]; rfl
    have hL := Qgv hW.ft
    have hW4 := hW.bel.size
    have HEQ := hide hW.eq
    rw [← hW.eq] at HOW
    have HT := hide ht
    have HSC := hide hsc
    have HGP := hide hgap
    have HB2 := hide b2'
    have HBL := hide hW.bel
    clear hsc hgap ht hi hz0 hz1 hz2 b2' e hW
    go_wp2_with (at_builtin; refine wpList_append_own _ rfl _ _ 45 rfl (w.heap.size + 1) 49 i0 (.agg #[.int .i64 0, .string ⟨#[]⟩, .int .i64 0, .int .i64 0]) 4 40 Tryz.underlying45 (Qa HI).1 (Qa HI).2.1 (Qa HI).2.2.1 (Qa HI).2.2.2 rfl (by decide) _ _ _ rfl ((Qa HOW).alloc _) ⟨_, 0, none⟩ 1 1 [.int .i64 kd, .string ⟨tx.toArray⟩, .int .i64 nm, .int .i64 (m : Int)] rfl rfl (Qfd _ _ _ _ _) (Qgx _ _ _ _) (by unfold maxLen; omega) (by omega) (by simp; omega) ?_; intro v' w5 hown' hgrow _)
    have hgrow' := hgrow
    rw [Qa HEQ] at hgrow'
    have HGR := hide hgrow'
    have HON := hide hown'
    obtain ⟨bel5, f5⟩ := tk_mid (Qa HHH) (Qa HB2) hgrow'
    obtain ⟨ml, hml⟩ := ((Qa HE).later bel5).ml
    clear hgrow hgrow' hown' HOW HEQ HBL hL hS1 hS2 c0
    refine (Qmq s (m + n) _ ml (by omega) (by omega) hs _ hml).mono ?_
    rintro e w6 ⟨hge, b6⟩
    obtain ⟨a', why', fa', rfl, hst⟩ := Qop hge
    have f6 : w6.heap[fb]? = some (.cells #[.int .i64 0, .int .i64 0] 31) := by rw [b6.block _ (Array.getElem?_eq_some_iff.1 f5).1]; exact f5
    have hS := Qg f6 why' fa'
    have hN := tk_next (Qa HHH) hp.1 htl (Qa HGP) (Qa HT) (Qa HSC) (Qa HB2) (Qa HON) (Qa HGR) b6 hst
    have hc := Qik w6 fb (.int .i64 why') (.int .i64 fa') _ _ f6
    obtain ⟨w7, hw7⟩ : ∃ w7, (w6.setCell ⟨fb, 0, none⟩ (.int .i64 why')).setCell ⟨fb, 1, none⟩ (.int .i64 fa') = w7 := ⟨_, rfl⟩
    rw [hw7] at hS hN hc
    have hmu : tkMu s.size fb (.int .i64 a') w7 < tkMu s.size fb (.int .i64 (m : Int)) wr := by
     unfold tkMu
     have e1 : w7.cell? ⟨fb, 0, none⟩ = some (.int .i64 why') := by rw [Lib.cell_of_heap hc]; rfl
     have e2 : wr.cell? ⟨fb, 0, none⟩ = some (.int .i64 0) := by rw [Lib.cell_of_heap (Qa HHH).fbx]; rfl
     rw [e1, e2]
     rw [show fltOf (some (.int .i64 why')) = why' from rfl, show fltOf (some (.int .i64 0)) = 0 from rfl, if_pos rfl]
     rw [show intOf (.int .i64 a') = a' from rfl, show intOf (.int .i64 (m : Int)) = (m : Int) from rfl]
     by_cases h0 : why' = 0
     ·
      rw [if_pos h0]
      have := hN.2.1 h0
      omega
     · rw [if_neg h0]; omega
    have HR := hide (show TkRel s w fb v' (.int .i64 a') w7 from ⟨_, _, _, _, rfl, hide hN.1⟩)
    have HMU := hide hmu
    clear hge b6 hst f5 f6 hN hc hw7 hmu bel5 hml HHH HON HGR
    go_wp2_with fail
    go_roundw
    case rel => exact Qa HR
    case measure => exact Qa HMU
  have HSC := hide (show scan 0 s.data.toList = .ok toks by rw [hsc, Qbi s m (by omega), Qdd]; simp [Out.app])
  have HO := hide (Qa HH).own
  obtain ⟨w9, hS9, z0, z1, bw, HO2⟩ := last (Qa HH).bel (Qa HH).rb 0 0
  have HO3 := hide (Qpv (Qa HO) HO2)
  clear hsc hgap HH HO HO2
  go_wp2_with fail
  refine bodyPost_ret (v := .tuple #[u4, .agg #[.int .i64 0, .int .i64 0]]) (by simp [results, Tryz.results35, go_sem, z0, z1]) rfl ?_
  rw [Qa H, Qa HSC]
  exact ⟨u4, rfl, Qa HO3, bw⟩
 have HSC := hide hsc
 obtain ⟨w9, hS9, z0, z1, bw, _⟩ := last (wr := wr.drew) (Qa HH).bel.drew (Qa HH).rb 7 (m : Int)
 have hL := Qcp (w := wr.drew) (Qa HH).fbx
 clear hsc HH
 go_wp2_with fail
 go_region
 all_goals
  go_wp2_with fail
  refine bodyPost_ret (v := .tuple #[.slice none 0 0, .agg #[.int .i64 7, .int .i64 (m : Int)]]) (by simp [results, Tryz.results35, go_sem, z0, z1]) rfl ?_
  rw [Qa H, Qa HSC]
  exact ⟨_, rfl, World.ownsRow_nil _ _ _ _, bw⟩
end
end Go.Proofs.YtjebglmpopijhaaGreatDoor
