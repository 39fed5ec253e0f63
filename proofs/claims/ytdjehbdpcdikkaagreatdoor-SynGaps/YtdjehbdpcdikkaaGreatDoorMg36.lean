/- The plain reading: a fault is one. syn: the laws' own probe answers true. Walks of the document's fault and gap. -/
import Derived.Test.YtdjehbdpcdikkaaGreatDoorMg29
import Derived.Test.YtdjehbdpcdikkaaGreatDoorMg28
import Derived.Test.YtdjehbdpcdikkaaGreatDoorMg33
namespace Go.Proofs.YtdjehbdpcdikkaaGreatDoor

section
variable {α β : Type} {e : Nat}
def Bw (R : Rs α) : Prop := ∀ w a l, R = .bad w a l → w ≠ 0
def BwP (P : Pr α) : Prop := ∀ l i, Bw (P l i)
theorem Bw.bind {R : Rs α} {f : α → Pr β} (h : Bw R) (hf : ∀ x, BwP (f x)) : Bw (R.bind f) := fun w a l hb => by
  cases R with
  | bad w2 a2 l2 => injection hb with h1 _ _; subst h1; exact h _ _ _ rfl
  | ok x l2 i2 => exact hf x l2 i2 w a l hb
theorem Bw.map {R : Rs α} {g : α → β} (h : Bw R) : Bw (R.map g) := fun w a l hb => by
  cases R with
  | bad w2 a2 l2 => injection hb with h1 _ _; subst h1; exact h _ _ _ rfl
  | ok x l2 i2 => cases hb
theorem Bw.ok {x : α} {l : List Tok} {i : Nat} : Bw (.ok x l i) := fun _ _ _ h => by cases h
theorem Bw.refuse {why : Int} (hw : why ≠ 0) {l : List Tok} {i : Nat} : Bw (refuse (α := α) e why l i) := fun _ _ _ h => by
  injection h with h1 _ _
  subst h1
  exact hw
theorem Bw.ite {p : Prop} [Decidable p] {A B : Rs α} (hA : Bw A) (hB : Bw B) : Bw (if p then A else B) := by
  split
  · exact hA
  · exact hB
theorem bw_want (s : Txt) : BwP (want e s) := fun _ _ => Bw.ite .ok (.refuse (by decide))
theorem bw_choose (ss : List Txt) : BwP (choose e ss) := fun _ _ => Bw.ite .ok (.refuse (by decide))
theorem bw_nm : BwP (nmQ e) := fun _ _ => Bw.ite .ok (.refuse (by decide))
theorem bw_word : BwP (wordQ e) := fun _ _ => Bw.ite .ok (.refuse (by decide))
theorem bw_listL {sep : Txt} {most : Nat} {P : Pr α} (hP : BwP P) : ∀ (f : Nat) (acc : List α), BwP (listL e sep most P f acc)
  | 0, _ => fun _ _ => .ok
  | f + 1, acc => fun l i => by
    unfold listL
    exact Bw.ite (.refuse (by decide)) (Bw.bind (hP l i) (fun _ _ _ => Bw.ite (bw_listL hP f _ _ _) .ok))
theorem bw_list {sep : Txt} {most : Nat} {P : Pr α} (hP : BwP P) : BwP (listP e sep most P) := fun _ _ => bw_listL hP _ _ _ _
theorem bw_encl {op cl : Txt} {P : Pr α} (hP : BwP P) : BwP (encl e op cl P) := fun l i => by
  unfold encl
  exact Bw.bind (bw_want op l i) (fun _ _ _ => Bw.ite .ok (Bw.bind (bw_list hP _ _) (fun _ _ _ => Bw.map (bw_want cl _ _))))
theorem bw_joinL {P : Pr Ex} {ss : List Txt} (hP : BwP P) : ∀ (f : Nat) (x : Ex), BwP (joinL e P ss f x)
  | 0, _ => fun _ _ => .ok
  | f + 1, x => fun l i => by
    unfold joinL
    exact Bw.ite (Bw.bind (hP _ i) (fun _ _ _ => bw_joinL hP f _ _ _)) .ok
theorem bw_joined {P : Pr Ex} {ss : List Txt} (hP : BwP P) : BwP (joined e P ss) := fun l i => by
  unfold joined
  exact Bw.bind (hP l i) (fun _ _ _ => bw_joinL hP _ _ _ _)
theorem bw_signed {E F : Pr Ex} (hE : BwP E) (hF : BwP F) : BwP (signed e E F) := fun l i => by
  unfold signed
  exact Bw.bind (bw_choose _ l i) (fun _ _ _ => Bw.ite (Bw.map (hF _ _)) (Bw.ite (Bw.bind (hE _ _) (fun _ _ _ => Bw.map (bw_want _ _ _))) (Bw.bind (bw_word _ _) (fun _ _ _ => Bw.map (bw_encl hE _ _)))))
theorem bw_factor {E F : Pr Ex} (hE : BwP E) (hF : BwP F) : BwP (factorB e E F) := fun l i => by
  unfold factorB
  exact Bw.ite .ok (Bw.ite .ok (Bw.ite (Bw.ite .ok (Bw.map (bw_word _ _))) (bw_signed hE hF _ _)))
theorem bw_ex : ∀ d, BwP (exD e d).1 ∧ BwP (exD e d).2
  | 0 => ⟨fun _ i => Bw.refuse (i := i) (by decide), fun _ i => Bw.refuse (i := i) (by decide)⟩
  | d + 1 => ⟨bw_joined (bw_joined (bw_ex d).2), bw_factor (bw_ex d).1 (bw_ex d).2⟩
theorem bw_atom (d : Nat) : BwP (atomP e d) := fun l i => by
  unfold atomP
  exact Bw.bind (bw_nm l i) (fun _ _ _ => Bw.map (bw_encl (bw_ex d).1 _ _))
theorem bw_lit (d : Nat) : BwP (litP e d) := fun l i => by
  unfold litP
  exact Bw.ite (Bw.map (bw_atom d _ _)) (Bw.ite (Bw.map (bw_atom d _ _)) (Bw.bind ((bw_ex d).1 l i) (fun _ _ _ => Bw.bind (bw_choose _ _ _) (fun _ _ _ => Bw.map ((bw_ex d).1 _ _)))))
theorem bw_clause (d : Nat) : BwP (clauseP e d) := fun l i => by
  unfold clauseP
  exact Bw.bind (bw_atom d l i) (fun _ _ _ => Bw.ite (Bw.bind (bw_list (bw_lit d) _ _) (fun _ _ _ => Bw.map (bw_want _ _ _))) (Bw.map (bw_want _ _ _)))
theorem bw_field : BwP (fieldP e) := fun l i => by
  unfold fieldP
  exact Bw.bind (bw_word l i) (fun _ _ _ => Bw.bind (bw_want _ _ _) (fun _ _ _ => Bw.map (bw_nm _ _)))
theorem bw_ctor : BwP (ctorP e) := fun l i => by
  unfold ctorP
  exact Bw.bind (bw_word l i) (fun _ _ _ => Bw.map (bw_encl bw_field _ _))
theorem bw_type : BwP (typeP e) := fun l i => by
  unfold typeP
  exact Bw.bind (bw_word _ i) (fun _ _ _ => Bw.bind (bw_choose _ _ _) (fun _ _ _ => Bw.ite (Bw.map (bw_nm _ _)) (Bw.map (bw_list bw_ctor _ _))))
theorem bw_flagL : ∀ (f : Nat) (a b : Bool), BwP (flagL e f a b)
  | 0, _, _ => fun _ _ => .ok
  | f + 1, a, b => fun l i => by
    unfold flagL
    exact Bw.ite (Bw.ite (bw_flagL f _ _ _ _) (Bw.ite (bw_flagL f _ _ _ _) .ok)) .ok
theorem bw_decl : BwP (declP e) := fun l i => by
  unfold declP
  exact Bw.bind (bw_word _ i) (fun _ _ _ => Bw.bind (bw_encl bw_field _ _) (fun _ _ _ => Bw.map (bw_flagL _ _ _ _ _)))
theorem bw_init : BwP (initP e) := fun l i => by
  unfold initP
  exact Bw.bind (bw_word _ i) (fun _ _ _ => Bw.bind (bw_want _ _ _) (fun _ _ _ => Bw.map (bw_nm _ _)))
theorem bw_comp {B : Pr Pg} (hB : BwP B) : BwP (compB e B) := fun l i => by
  unfold compB
  exact Bw.bind (bw_word _ i) (fun _ _ _ => Bw.bind (Bw.ite (bw_list bw_nm _ _) .ok) (fun _ _ _ => Bw.bind (bw_want _ _ _) (fun _ _ _ => Bw.bind (hB _ _) (fun _ _ _ => Bw.map (bw_want _ _ _)))))
theorem bw_item {d : Nat} {C : Pr (Txt × List Txt × Pg × Int)} (hC : BwP C) (p : Pg) : BwP (itemP e d C p) := fun l i => by
  unfold itemP
  exact Bw.ite (.refuse (by decide)) (Bw.ite (Bw.map (bw_type _ _)) (Bw.ite (Bw.map (bw_decl _ _)) (Bw.ite (Bw.map (hC _ _)) (Bw.ite (Bw.map (bw_init _ _)) (Bw.map (bw_clause d _ _))))))
theorem bw_progL {d : Nat} {top : Bool} {C : Pr (Txt × List Txt × Pg × Int)} (hC : BwP C) : ∀ (f : Nat) (p : Pg), BwP (progL e top d C f p)
  | 0, _ => fun _ _ => .ok
  | f + 1, p => fun l i => by
    unfold progL
    exact Bw.ite .ok (Bw.bind (bw_item hC p l i) (fun _ _ _ => bw_progL hC f _ _ _))
theorem bw_compC : ∀ d, BwP (compC e d)
  | 0 => fun _ i => Bw.refuse (i := i) (by decide)
  | d + 1 => bw_comp (fun l i => by rw [progD_eq]; exact bw_progL (bw_compC d) _ _ _ _)
end
theorem parse_why {s : Txt} {w a : Int} {l : List Tok} (h : parseP s = .bad w a l) : w ≠ 0 := by
  unfold parseP at h
  cases hl : lexP s with
  | bad w2 a2 =>
    rw [hl] at h
    have h : Rs.bad w2 (a2 : Int) [] = .bad w a l := h
    injection h with h1 _ _
    subst h1
    have := lex_ris s
    rw [hl] at this
    exact this.1
  | ok toks =>
    rw [hl] at h
    have h : progD s.length 32 true toks 0 = .bad w a l := h
    rw [progD_eq] at h
    exact bw_progL (bw_compC 32) _ _ _ _ _ _ _ h
end Go.Proofs.YtdjehbdpcdikkaaGreatDoor

namespace Go.Proofs.YtdjehbdpcdikkaaGreatDoor
open Go.RowKit Go.Maps

def vx (c : UInt8) (a : Int) : Ex := .mk 1 0 [c] [] a
/-- The program of the laws' own probe. -/
def live : Pg := .mk [] [] [] [] [⟨⟨[112], [vx 120 2, vx 121 5], 0⟩, [⟨1, ⟨[101], [vx 120 13, vx 122 16], 11⟩, [], .none, .none, 11⟩, ⟨1, ⟨[112], [vx 122 22, vx 121 25], 20⟩, [], .none, .none, 20⟩, ⟨3, .none, [60], vx 120 29, .mk 2 (-3) [] [] 33, 29⟩], 0⟩]
set_option maxRecDepth 100000 in
theorem live_parse : parseP (⟨#[112, 40, 120, 44, 32, 121, 41, 32, 58, 45, 32, 101, 40, 120, 44, 32, 122, 41, 44, 32, 112, 40, 122, 44, 32, 121, 41, 44, 32, 120, 32, 60, 32, 45, 51, 46]⟩ : ByteArray).data.toList = .ok live [] 1 := by kernel_rfl
set_option maxRecDepth 100000 in
theorem live_same : eqPg live live = true := by kernel_rfl
attribute [local go_sem ↓] storeAt_lt loadAt_lt
theorem lt_at {w : World} {b o : Nat} {c0 c1 c2 c3 c4 c5 c6 c7 c8 c9 c10 c11 c12 c13 c14 c15 : Value} (h : ∀ q c, ([c0, c1, c2, c3, c4, c5, c6, c7, c8, c9, c10, c11, c12, c13, c14, c15] : List Value)[q]? = some c → w.cell? ⟨b, o + q, none⟩ = some c) : (ltLoad (.pointer (some ⟨b, o, none⟩))).run Tryz.prog w = .ok (.agg #[c0, c1, c2, c3, c4, c5, c6, c7, c8, c9, c10, c11, c12, c13, c14, c15]) w :=
  run_loadAt_mid w b o 92 [c0, c1, c2, c3, c4, c5, c6, c7, c8, c9, c10, c11, c12, c13, c14, c15] _ (fun q v hq => h q v hq) Tryz.underlying92 rfl size_lt
theorem lt_put (w : World) {c0 c1 c2 c3 c4 c5 c6 c7 c8 c9 c10 c11 c12 c13 c14 c15 : Value} (h1 : ∀ c ∈ ([c0, c1, c2, c3, c4, c5, c6, c7, c8, c9, c10, c11, c12, c13, c14, c15] : List Value), c.oneCell' = true) : (ltStore (.pointer (some ⟨w.heap.size, 0, none⟩)) (.agg #[c0, c1, c2, c3, c4, c5, c6, c7, c8, c9, c10, c11, c12, c13, c14, c15])).run Tryz.prog (w.alloc ltZ) = .ok () (w.alloc (.cells #[c0, c1, c2, c3, c4, c5, c6, c7, c8, c9, c10, c11, c12, c13, c14, c15] 92)) :=
  run_storeAt_new w 92 _ _ size_lt rfl (by simpa using h1)
theorem live_mem {S : Nat → Prop} {w : World} {a0 a1 a2 a3 a4 : Option Addr} {n0 q0 n1 q1 n2 q2 n3 q3 n4 q4 : Nat} (hP : PgS S w [.slice a0 n0 q0, .slice a1 n1 q1, .slice a2 n2 q2, .slice a3 n3 q3, .slice a4 n4 q4] live) : ∃ b d dap c0 c1 c2 c3 c5 c6 c7 c8 c9 c10 c12 c13 c14, a4 = some ⟨b, 0, none⟩ ∧ n4 = 1 ∧ b < w.heap.size ∧ w.cell? ⟨b, 3, none⟩ = some (.slice (some ⟨d, 0, none⟩) 3 dap) ∧ d < w.heap.size ∧ (∀ q c, ([c0, c1, c2, c3, .string ⟨#[60]⟩, c5, c6, c7, c8, c9, c10, .int .i64 (-3), c12, c13, c14, .int .i64 29] : List Value)[q]? = some c → w.cell? ⟨d, 32 + q, none⟩ = some c) ∧ ∀ c ∈ ([c0, c1, c2, c3, .string ⟨#[60]⟩, c5, c6, c7, c8, c9, c10, .int .i64 (-3), c12, c13, c14, .int .i64 29] : List Value), c.oneCell' = true := by
  obtain ⟨v0, v1, v2, v3, v4, ev, h0, h1, h2, h3, h4⟩ := hP.cells
  obtain ⟨rfl, rfl, rfl, rfl, rfl⟩ := list5 ev
  obtain ⟨b, cap, cs, e1, hb, _, hl, hq, hc⟩ := h4.elem (j := 0) rfl
  obtain ⟨aa, an, ac, ba, bn, bc, rfl, _, hB⟩ := hq
  obtain ⟨d, dap, ds, e2, hd, _, hdl, hdq, hdc⟩ := hB.elem (j := 2) rfl
  have h16 := plt_one hdq
  obtain ⟨ua, un, uc, xa, xn, xc, ya, yn, yc, rfl, _, _, _⟩ := hdq
  simp only [Value.slice.injEq] at e1
  have hbody := hc 3 _ rfl
  rw [e2] at hbody
  exact ⟨b, d, dap, _, _, _, _, _, _, _, _, _, _, _, _, _, e1.1, e1.2.1, hb, hbody, hd, hdc, h16⟩
set_option maxRecDepth 100000 in
set_option maxHeartbeats 8000000 in
theorem alive9_any (w : World) (hE : Env w) : Calls Tryz.prog 11 #[] w fun e w' => e = .returned (.bool true) ∧ Below w.heap.size w w' := by
  have H1 := parse_any ⟨#[112, 40, 120, 44, 32, 121, 41, 32, 58, 45, 32, 101, 40, 120, 44, 32, 122, 41, 44, 32, 112, 40, 122, 44, 32, 121, 41, 44, 32, 120, 32, 60, 32, 45, 51, 46]⟩ (by decide) w hE
  rw [live_parse] at H1
  clear hE
  go_enter Tryz.func11, Tryz.ntmps11
  go_wp2_with fail
  refine H1.mono ?_
  clear H1
  rintro e w1 ⟨_, rfl, ⟨a0, n0, q0, a1, n1, q1, a2, n2, q2, a3, n3, q3, a4, n4, q4, rfl, hP⟩, b1⟩
  obtain ⟨b, d, dap, c0, c1, c2, c3, c5, c6, c7, c8, c9, c10, c12, c13, c14, rfl, rfl, hb, hcb, hd, hcd, h16⟩ := live_mem hP
  obtain ⟨w2, hw2⟩ : ∃ w2, w2 = (w1.alloc (.cells #[.slice a0 n0 q0, .slice a1 n1 q1, .slice a2 n2 q2, .slice a3 n3 q3, .slice (some ⟨b, 0, none⟩) 1 q4] 28)).alloc (.cells #[.int .i64 0, .int .i64 0] 31) := ⟨_, rfl⟩
  have b2 : Below w1.heap.size w1 w2 := by rw [hw2]; exact ((Below.refl _ w1).alloc (Nat.le_refl _) _).alloc (by simp) _
  have s2 : w2.heap.size = w1.heap.size + 1 + 1 := by rw [hw2]; simp
  have p2 : w2.heap[w1.heap.size]? = some (.cells #[.slice a0 n0 q0, .slice a1 n1 q1, .slice a2 n2 q2, .slice a3 n3 q3, .slice (some ⟨b, 0, none⟩) 1 q4] 28 (0, 0)) := by rw [hw2, Below.heap_alloc _ _ _ (by simp)]; exact heap_alloc_new w1 _
  have f2 : w2.heap[w1.heap.size + 1]? = some (.cells #[.int .i64 0, .int .i64 0] 31 (0, 0)) := by
    rw [hw2]
    have := heap_alloc_new (w1.alloc (.cells #[.slice a0 n0 q0, .slice a1 n1 q1, .slice a2 n2 q2, .slice a3 n3 q3, .slice (some ⟨b, 0, none⟩) 1 q4] 28)) (.cells #[.int .i64 0, .int .i64 0] 31)
    simpa using this
  have hbo : w2.cell? ⟨b, 3, none⟩ = some (.slice (some ⟨d, 0, none⟩) 3 dap) := by rw [b2.cell (p := ⟨b, 3, none⟩) hb]; exact hcb
  have L1 := lt_at (w := w2) (b := d) (o := 32) (fun q c hq => by rw [b2.cell (p := ⟨d, 32 + q, none⟩) hd]; exact hcd q c hq)
  have N1 := lt_put w2 h16
  obtain ⟨w3, hw3⟩ : ∃ w3, w3 = w2.alloc (.cells #[c0, c1, c2, c3, .string ⟨#[60]⟩, c5, c6, c7, c8, c9, c10, .int .i64 (-3), c12, c13, c14, .int .i64 29] 92) := ⟨_, rfl⟩
  have b3 : Below w1.heap.size w1 w3 := by rw [hw3]; exact b2.alloc b2.size _
  have m3 : w3.heap[w2.heap.size]? = some (.cells #[c0, c1, c2, c3, .string ⟨#[60]⟩, c5, c6, c7, c8, c9, c10, .int .i64 (-3), c12, c13, c14, .int .i64 29] 92 (0, 0)) := by rw [hw3]; exact heap_alloc_new w2 _
  have p3 := ((by rw [hw3, Below.heap_alloc _ _ _ (by omega)] : w3.heap[w1.heap.size]? = w2.heap[w1.heap.size]?)).trans p2
  have hsm := samePg_any live live _ w3 _ _ _ _ _ _ _ _ _ _ (pgS_ok.same _ _ w3 _ _ hP b3.size (fun b _ hl => b3.block b hl)) (pgS_ok.same _ _ w3 _ _ hP b3.size (fun b _ hl => b3.block b hl))
  rw [live_same] at hsm
  rw [s2] at m3
  obtain ⟨x0, x1, x2, x3, x4, xf⟩ := cl5 p2
  obtain ⟨y0, y1, y2, y3, y4, yf⟩ := cl5 p3
  obtain ⟨z0, z1, zf⟩ := cl2 f2
  obtain ⟨u0, u1, u2, u3, u4, u5, u6, u7, u8, u9, u10, u11, u12, u13, u14, u15, uf⟩ := cl16 m3
  rw [← hw3, s2] at N1
  have HB := hide (And.intro b1 b3)
  clear hP b1 hb hcb hd hcd h16 b2 s2 p2 f2 hw3 b3 m3 p3 u0 u1 u2 u3 u5 u6 u7 u8 u9 u10 u12 u13 u14
  subst hw2
  go_wp2_with fail
  refine hsm.mono ?_
  clear hsm
  rintro e w4 ⟨rfl, b4⟩
  have B4 := hide b4
  clear b4
  go_wp2_with fail
  go_ret
  obtain ⟨b1, b3⟩ := unhide HB
  exact ⟨rfl, (b1.trans (b3.mono b1.size)).trans ((unhide B4).mono (Nat.le_trans b1.size b3.size))⟩
end Go.Proofs.YtdjehbdpcdikkaaGreatDoor

namespace Go.Proofs.YtdjehbdpcdikkaaGreatDoor
open Go.RowKit

set_option maxRecDepth 100000 in
set_option maxHeartbeats 1000000 in
theorem fault_any (why a : Int) (w : World) :
    Calls Tryz.prog 40 #[.int .i64 why, .int .i64 a] w fun e w' => e = .returned (.agg #[.int .i64 why, .int .i64 a]) ∧ Below w.heap.size w w' := by
  go_enter Tryz.func40, Tryz.ntmps40
  go_wp2_with fail
  refine bodyPost_ret (v := .agg #[.int .i64 why, .int .i64 a]) (by simp [results, Tryz.results40, go_sem]) rfl ?_
  exact ⟨rfl, (Below.refl _ w).alloc (Nat.le_refl _) _⟩

/-- What the document's gap answers. -/
def gapV (k : Nat) : G → Int
  | .none => (k : Int)
  | .gap n => (k : Int) + (n : Int)
  | .never => -1
theorem ln_at {s : ByteArray} {k m : Nat} (h : m < s.size) (hd : ¬ bv s[m] = 10) (hh : k + lnLen (s.data.toList.drop k) = m + lnLen (s.data.toList.drop m)) :
    k + lnLen (s.data.toList.drop k) = (m + 1) + lnLen (s.data.toList.drop (m + 1)) := by
  rw [drop_at s m h] at hh
  have : lnLen (s[m] :: s.data.toList.drop (m + 1)) = lnLen (s.data.toList.drop (m + 1)) + 1 := by
    unfold lnLen
    rw [if_neg (fun e => hd (by rw [e]; rfl))]
    cases s.data.toList.drop (m + 1) <;> rfl
  omega
theorem ln_end {s : ByteArray} {k m : Nat} (h : ∀ hm : m < s.size, bv s[m] = 10) (hh : k + lnLen (s.data.toList.drop k) = m + lnLen (s.data.toList.drop m)) : k + lnLen (s.data.toList.drop k) = m := by
  by_cases hm : m < s.size
  · have e : s[m] = 10 := (bv_eq (k := 10) (by omega)).1 (h hm)
    rw [drop_at s m hm, e] at hh
    simp [lnLen] at hh
    exact hh
  · rw [drop_end s m (by omega)] at hh
    exact hh
theorem ce_at {s : ByteArray} {m : Nat} (h : m < s.size) (hp : pre [42, 47] (s.data.toList.drop m) = false) : cEnd (s.data.toList.drop m) = (cEnd (s.data.toList.drop (m + 1))).map (· + 1) := by
  rw [drop_at s m h] at hp ⊢
  rw [cEnd, if_neg (by rw [hp]; simp)]
theorem ce_hit {s : ByteArray} {m : Nat} (h : m < s.size) (hp : pre [42, 47] (s.data.toList.drop m) = true) : cEnd (s.data.toList.drop m) = some 0 := by
  rw [drop_at s m h] at hp ⊢
  rw [cEnd, if_pos hp]
/-- The comment's end, looked for from k on, up to m. -/
def CeAt (s : ByteArray) (k m : Nat) : Prop := k ≤ m ∧ m ≤ s.size ∧ cEnd (s.data.toList.drop k) = (cEnd (s.data.toList.drop m)).map (· + (m - k))
theorem CeAt.step {s : ByteArray} {k m : Nat} (h : CeAt s k m) (hm : m < s.size) (hp : pre [42, 47] (s.data.toList.drop m) = false) : CeAt s k (m + 1) := by
  obtain ⟨h1, h2, h3⟩ := h
  refine ⟨by omega, by omega, ?_⟩
  rw [h3, ce_at hm hp, Option.map_map]
  cases cEnd (s.data.toList.drop (m + 1)) with
  | none => rfl
  | some j => simp; omega

set_option maxHeartbeats 4000000 in
theorem rgap_any (s : ByteArray) (k : Nat) (hk : k < s.size) (hs : s.size ≤ 140737488355328) (w : World) :
    Calls Tryz.prog 41 #[.string s, .int .i64 (k : Int)] w fun e w' => e = .returned (.int .i64 (gapV k (gapAt (s.data.toList.drop k)))) ∧ w' = w := by
  cases hb : isB (s[k].toNat : Int) with
  | true =>
    have H := hide (show gapV k (gapAt (s.data.toList.drop k)) = (k : Int) + 1 by rw [gap_blank hk hb]; rfl)
    have hb' : (s[k].toNat : Int) = 32 ∨ (s[k].toNat : Int) = 9 ∨ (s[k].toNat : Int) = 10 ∨ (s[k].toNat : Int) = 13 := by
      simp only [isB, Bool.or_eq_true, decide_eq_true_eq] at hb; omega
    go_enter Tryz.func41, Tryz.ntmps41
    rcases hb' with e | e | e | e
    all_goals
      go_wp2_with fail
      go_ret
      exact ⟨ret_int (unhide H).symm, rfl⟩
  | false =>
    have hb' : ¬ (s[k].toNat : Int) = 32 ∧ ¬ (s[k].toNat : Int) = 9 ∧ ¬ (s[k].toNat : Int) = 10 ∧ ¬ (s[k].toNat : Int) = 13 := by
      simp only [isB, Bool.or_eq_false_iff, decide_eq_false_iff_not] at hb; omega
    obtain ⟨n1, n2, n3, n4⟩ := hb'
    have m1 : ((s[k].toNat : Int) == 32) = false := beq_eq_false_iff_ne.2 n1
    have m2 : ((s[k].toNat : Int) == 9) = false := beq_eq_false_iff_ne.2 n2
    have m3 : ((s[k].toNat : Int) == 10) = false := beq_eq_false_iff_ne.2 n3
    have m4 : ((s[k].toNat : Int) == 13) = false := beq_eq_false_iff_ne.2 n4
    clear n1 n2 n4
    cases hp : pre [47, 47] (s.data.toList.drop k) with
    | true =>
      have HP := hide hp
      have H := hide (show gapV k (gapAt (s.data.toList.drop k)) = (k : Int) + (lnLen (s.data.toList.drop k) : Int) by rw [gap_line hk hb hp]; rfl)
      clear hp
      go_enter Tryz.func41, Tryz.ntmps41
      go_wp2_with (go_at_call 76; refine (at_is s _ k ⟨#[47, 47]⟩ true rfl (unhide HP) (by omega) hs (by decide) _).mono ?_; rintro e w' ⟨rfl, rfl⟩)
      go_loop [1] (fun i => ∃ m : Nat, i = .int .i64 (m : Int) ∧ m ≤ s.size ∧ Hid (k + lnLen (s.data.toList.drop k) = m + lnLen (s.data.toList.drop m))) (fun i => s.size - (intOf i).toNat)
      case atStart => exact ⟨k, rfl, by omega, hide rfl⟩
      case round =>
        obtain ⟨m, rfl, hm, HH⟩ := hrel
        by_cases hlt : m < s.size
        · cases h10 : ((s[m].toNat : Int) != 10) with
          | true =>
            go_wp2_with fail
            go_round
            case rel => exact ⟨m + 1, by go_num, by omega, hide (ln_at hlt (bne_iff_ne.1 h10) (unhide HH))⟩
            case measure => simp [intOf]; omega
          | false =>
            go_wp2_with fail
            go_ret
            have e10 : (s[m].toNat : Int) = 10 := by simpa using h10
            exact ⟨ret_int (by rw [unhide H]; have := ln_end (fun _ => e10) (unhide HH); omega), rfl⟩
        · go_wp2_with fail
          go_ret
          exact ⟨ret_int (by rw [unhide H]; have := ln_end (fun h => absurd h hlt) (unhide HH); omega), rfl⟩
    | false =>
      cases hq : pre [47, 42] (s.data.toList.drop k) with
      | false =>
        have HP := hide hp
        have HQ := hide hq
        have H := hide (show gapV k (gapAt (s.data.toList.drop k)) = (k : Int) by rw [gap_not hk hb hp hq]; rfl)
        clear hp hq
        go_enter Tryz.func41, Tryz.ntmps41
        go_wp2_with fail
        refine (at_is s _ k ⟨#[47, 47]⟩ false rfl (unhide HP) (by omega) hs (by decide) _).mono ?_
        rintro e w' ⟨rfl, rfl⟩
        go_wp2_with fail
        refine (at_is s _ k ⟨#[47, 42]⟩ false rfl (unhide HQ) (by omega) hs (by decide) _).mono ?_
        rintro e w' ⟨rfl, rfl⟩
        go_wp2_with fail
        go_ret
        exact ⟨ret_int (unhide H).symm, rfl⟩
      | true =>
        have HP := hide hp
        have HQ := hide hq
        have h2 := pre_two hq
        have H := hide (show gapV k (gapAt (s.data.toList.drop k)) = match cEnd (s.data.toList.drop (k + 2)) with | some n => (k : Int) + ((n + 4 : Nat) : Int) | none => -1 by
          rw [gap_comm hk hb hp hq]; unfold cGap; cases cEnd (s.data.toList.drop (k + 2)) <;> rfl)
        clear hp hq
        go_enter Tryz.func41, Tryz.ntmps41
        go_wp2_with fail
        refine (at_is s _ k ⟨#[47, 47]⟩ false rfl (unhide HP) (by omega) hs (by decide) _).mono ?_
        rintro e w' ⟨rfl, rfl⟩
        go_wp2_with fail
        refine (at_is s _ k ⟨#[47, 42]⟩ true rfl (unhide HQ) (by omega) hs (by decide) _).mono ?_
        rintro e w' ⟨rfl, rfl⟩
        go_wp2_with fail
        go_loop [6] (fun i => ∃ m : Nat, i = .int .i64 (m : Int) ∧ Hid (CeAt s (k + 2) m)) (fun i => s.size - (intOf i).toNat)
        case atStart => exact ⟨k + 2, by go_num, hide ⟨Nat.le_refl _, h2, by rw [Nat.sub_self]; cases cEnd (s.data.toList.drop (k + 2)) <;> rfl⟩⟩
        case round =>
          obtain ⟨m, rfl, HH⟩ := hrel
          have hm := (unhide HH).2.1
          have hkm := (unhide HH).1
          by_cases hlt : m < s.size
          · cases hr : pre [42, 47] (s.data.toList.drop m) with
            | true =>
              have HR := hide hr
              clear hr
              go_wp2_with (go_at_call 76; refine (at_is s _ m ⟨#[42, 47]⟩ true rfl (unhide HR) (by omega) hs (by decide) _).mono ?_; rintro e w' ⟨rfl, rfl⟩)
              go_ret
              refine ⟨ret_int ?_, rfl⟩
              rw [unhide H, (unhide HH).2.2, ce_hit hlt (unhide HR), Option.map_some]
              show (m : Int) + 2 = (k : Int) + ((0 + (m - (k + 2)) + 4 : Nat) : Int)
              omega
            | false =>
              have HR := hide hr
              clear hr
              go_wp2_with (go_at_call 76; refine (at_is s _ m ⟨#[42, 47]⟩ false rfl (unhide HR) (by omega) hs (by decide) _).mono ?_; rintro e w' ⟨rfl, rfl⟩)
              go_round
              case rel => exact ⟨m + 1, by go_num, hide ((unhide HH).step hlt (unhide HR))⟩
              case measure => simp [intOf]; omega
          · go_wp2_with fail
            go_ret
            refine ⟨ret_int ?_, rfl⟩
            rw [unhide H, (unhide HH).2.2, drop_end s m (by omega)]
            rfl
end Go.Proofs.YtdjehbdpcdikkaaGreatDoor
