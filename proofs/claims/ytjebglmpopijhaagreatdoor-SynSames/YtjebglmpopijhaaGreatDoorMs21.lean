/- syn: the laws' own probe answers true. Walk of the document's Same. Walks of the document's fault and gap. Walk of the document's number. -/
import Derived.Test.YtjebglmpopijhaaGreatDoorMs20
import Derived.Test.YtjebglmpopijhaaGreatDoorMs17
import Derived.Test.YtjebglmpopijhaaGreatDoorMs16
set_option maxRecDepth 100000
set_option maxHeartbeats 32000000
namespace Go.Proofs.YtjebglmpopijhaaGreatDoor
section
open Go.RowKit Go.Maps
def vx (c : UInt8) (a : Int) : Ex := .mk 1 0 [c] [] a
def live : Pg := .mk [] [] [] [] [⟨⟨[112], [vx 120 2, vx 121 5], 0⟩, [⟨1, ⟨[101], [vx 120 13, vx 122 16], 11⟩, [], .none, .none, 11⟩, ⟨1, ⟨[112], [vx 122 22, vx 121 25], 20⟩, [], .none, .none, 20⟩, ⟨3, .none, [60], vx 120 29, .mk 2 (-3) [] [] 33, 29⟩], 0⟩]
theorem Qmt : parseP (⟨#[112, 40, 120, 44, 32, 121, 41, 32, 58, 45, 32, 101, 40, 120, 44, 32, 122, 41, 44, 32, 112, 40, 122, 44, 32, 121, 41, 44, 32, 120, 32, 60, 32, 45, 51, 46]⟩ : ByteArray).data.toList = .ok live [] 1 := by kernel_rfl
theorem Qpb : eqPg live live = true := by kernel_rfl
def ltoks : List Tok := (lexP (⟨#[112, 40, 120, 44, 32, 121, 41, 32, 58, 45, 32, 101, 40, 120, 44, 32, 122, 41, 44, 32, 112, 40, 122, 44, 32, 121, 41, 44, 32, 120, 32, 60, 32, 45, 51, 46]⟩ : ByteArray).data.toList).toks
theorem Qry : lexP (⟨#[112, 40, 120, 44, 32, 121, 41, 32, 58, 45, 32, 101, 40, 120, 44, 32, 122, 41, 44, 32, 112, 40, 122, 44, 32, 121, 41, 44, 32, 120, 32, 60, 32, 45, 51, 46]⟩ : ByteArray).data.toList = .ok ltoks := by kernel_rfl
theorem Qkn : ∃ x, clauseP 36 32 ltoks 1 = .ok x [] 1 := ⟨live.clauses.head (by decide), by kernel_rfl⟩
theorem Qda : sgn 36 ltoks = [] := by kernel_rfl
theorem Qmv (w : World) (hE : Env w) : Calls Tryz.prog 10 #[.string ⟨#[112, 40, 120, 44, 32, 121, 41, 32, 58, 45, 32, 101, 40, 120, 44, 32, 122, 41, 44, 32, 112, 40, 122, 44, 32, 121, 41, 44, 32, 120, 32, 60, 32, 45, 51, 46]⟩] w fun en w' => PsA w (parseP (⟨#[112, 40, 120, 44, 32, 121, 41, 32, 58, 45, 32, 101, 40, 120, 44, 32, 122, 41, 44, 32, 112, 40, 122, 44, 32, 121, 41, 44, 32, 120, 32, 60, 32, 45, 51, 46]⟩ : ByteArray).data.toList) en w' := by
 refine Qsb _ (by decide) w hE (fun rb w toks hq h => ?_)
 rw [Qry] at hq
 cases hq
 refine read_of h (fun w2 b2 => ?_)
 rw [Qm]
 have E : ∀ p, itemP 36 32 (compC 36 32) p ltoks 0 = (clauseP 36 32 ltoks 1).map fun x => .mk p.types p.decls p.comps p.inits (p.clauses ++ [x]) := fun p => by
  unfold itemP
  rw [if_neg (by decide), if_neg (by rw [Qda]; decide), if_neg (by rw [Qda]; decide), if_neg (by rw [Qda]; decide), if_neg (by rw [Qda]; decide)]
 refine prog_of (Qlf 32) true 0 [] (fun l => rfl) (fun l it => (l = ltoks ∧ it = 0) ∨ l = []) (fun pb base wr l it v0 v1 v2 v3 v4 p hR h5 hb hrp hf hi hz hn => ?_) (fun p l it q l' it' hz hn hq => ?_) (Nat.zero_le _) (h.later b2) (.inl ⟨rfl, rfl⟩)
 ·
  rcases hz with ⟨rfl, rfl⟩ | rfl
  · exact Qjc rfl hR h5 hb hrp (by obtain ⟨_, _, _, _, f4⟩ := hf; omega) (by omega) (fun e => absurd (Qda.symm.trans e) (by decide)) (fun e => absurd (Qda.symm.trans e) (by decide)) (fun e => absurd (Qda.symm.trans e) (by decide)) (fun e => absurd (Qda.symm.trans e) (by decide))
  · cases hn
 rcases hz with ⟨rfl, rfl⟩ | rfl
 ·
  obtain ⟨x, hx⟩ := Qkn
  have hq2 := (E p).symm.trans hq
  rw [hx] at hq2
  cases hq2
  exact .inr rfl
 · cases hn
attribute [local go_sem ↓] Qdp Qeb
theorem lt_at {w : World} {b o : Nat} {c0 c1 c2 c3 c4 c5 c6 c7 c8 c9 c10 c11 c12 c13 c14 c15 : Value} (h : ∀ q c, ([c0, c1, c2, c3, c4, c5, c6, c7, c8, c9, c10, c11, c12, c13, c14, c15] : List Value)[q]? = some c → w.cell? ⟨b, o + q, none⟩ = some c) : (ltLoad (.pointer (some ⟨b, o, none⟩))).run Tryz.prog w = .ok (.agg #[c0, c1, c2, c3, c4, c5, c6, c7, c8, c9, c10, c11, c12, c13, c14, c15]) w :=
 run_loadAt_mid w b o 90 [c0, c1, c2, c3, c4, c5, c6, c7, c8, c9, c10, c11, c12, c13, c14, c15] _ (fun q v hq => h q v hq) Tryz.underlying90 rfl Qes
theorem lt_put (w : World) {c0 c1 c2 c3 c4 c5 c6 c7 c8 c9 c10 c11 c12 c13 c14 c15 : Value} (h1 : ∀ c ∈ ([c0, c1, c2, c3, c4, c5, c6, c7, c8, c9, c10, c11, c12, c13, c14, c15] : List Value), c.oneCell' = true) : (ltStore (.pointer (some ⟨w.heap.size, 0, none⟩)) (.agg #[c0, c1, c2, c3, c4, c5, c6, c7, c8, c9, c10, c11, c12, c13, c14, c15])).run Tryz.prog (w.alloc ltZ) = .ok () (w.alloc (.cells #[c0, c1, c2, c3, c4, c5, c6, c7, c8, c9, c10, c11, c12, c13, c14, c15] 90)) :=
 run_storeAt_new w 90 _ _ Qes rfl (by simpa using h1)
theorem Qrz {S : Nat → Prop} {w : World} {a0 a1 a2 a3 a4 : Option Addr} {n0 q0 n1 q1 n2 q2 n3 q3 n4 q4 : Nat} (hP : PgS S w [.slice a0 n0 q0, .slice a1 n1 q1, .slice a2 n2 q2, .slice a3 n3 q3, .slice a4 n4 q4] live) : ∃ b d dap c0 c1 c2 c3 c5 c6 c7 c8 c9 c10 c12 c13 c14, a4 = some ⟨b, 0, none⟩ ∧ n4 = 1 ∧ b < w.heap.size ∧ w.cell? ⟨b, 3, none⟩ = some (.slice (some ⟨d, 0, none⟩) 3 dap) ∧ d < w.heap.size ∧ (∀ q c, ([c0, c1, c2, c3, .string ⟨#[60]⟩, c5, c6, c7, c8, c9, c10, .int .i64 (-3), c12, c13, c14, .int .i64 29] : List Value)[q]? = some c → w.cell? ⟨d, 32 + q, none⟩ = some c) ∧ ∀ c ∈ ([c0, c1, c2, c3, .string ⟨#[60]⟩, c5, c6, c7, c8, c9, c10, .int .i64 (-3), c12, c13, c14, .int .i64 29] : List Value), c.oneCell' = true := by
 obtain ⟨v0, v1, v2, v3, v4, ev, h0, h1, h2, h3, h4⟩ := hP.cells
 obtain ⟨rfl, rfl, rfl, rfl, rfl⟩ := list5 ev
 obtain ⟨b, cap, cs, e1, hb, _, hl, hq, hc⟩ := h4.elem (j := 0) rfl
 obtain ⟨aa, an, ac, ba, bn, bc, rfl, _, hB⟩ := hq
 obtain ⟨d, dap, ds, e2, hd, _, hdl, hdq, hdc⟩ := hB.elem (j := 2) rfl
 have h16 := Qeq hdq
 obtain ⟨ua, un, uc, xa, xn, xc, ya, yn, yc, rfl, _, _, _⟩ := hdq
 simp only [Value.slice.injEq] at e1
 have hbody := hc 3 _ rfl
 rw [e2] at hbody
 exact ⟨b, d, dap, _, _, _, _, _, _, _, _, _, _, _, _, _, e1.1, e1.2.1, hb, hbody, hd, hdc, h16⟩
theorem Qmk (w : World) (hE : Env w) : Calls Tryz.prog 9 #[] w fun e w' => e = .returned (.bool true) ∧ Below w.heap.size w w' := by
 have H1 := Qmv w hE
 rw [Qmt] at H1
 clear hE
 go_enter Tryz.func9, Tryz.ntmps9
 go_wp2_with fail
 refine H1.mono ?_
 clear H1
 rintro e w1 ⟨_, rfl, ⟨a0, n0, q0, a1, n1, q1, a2, n2, q2, a3, n3, q3, a4, n4, q4, rfl, hP⟩, b1⟩
 obtain ⟨b, d, dap, c0, c1, c2, c3, c5, c6, c7, c8, c9, c10, c12, c13, c14, rfl, rfl, hb, hcb, hd, hcd, h16⟩ := Qrz hP
 obtain ⟨w2, hw2⟩ : ∃ w2, w2 = (w1.alloc (.cells #[.slice a0 n0 q0, .slice a1 n1 q1, .slice a2 n2 q2, .slice a3 n3 q3, .slice (some ⟨b, 0, none⟩) 1 q4] 28)).alloc (.cells #[.int .i64 0, .int .i64 0] 31) := ⟨_, rfl⟩
 have b2 : Below w1.heap.size w1 w2 := by rw [hw2]; exact ((Below.refl _ w1).alloc (Nat.le_refl _) _).alloc (by simp) _
 have s2 : w2.heap.size = w1.heap.size + 1 + 1 := by rw [hw2]; simp
 have p2 : w2.heap[w1.heap.size]? = some (.cells #[.slice a0 n0 q0, .slice a1 n1 q1, .slice a2 n2 q2, .slice a3 n3 q3, .slice (some ⟨b, 0, none⟩) 1 q4] 28 (0, 0)) := by rw [hw2, Below.heap_alloc _ _ _ (by simp)]; exact heap_alloc_new w1 _
 have f2 : w2.heap[w1.heap.size + 1]? = some (.cells #[.int .i64 0, .int .i64 0] 31 (0, 0)) := by
  rw [hw2]
  have := heap_alloc_new (w1.alloc (.cells #[.slice a0 n0 q0, .slice a1 n1 q1, .slice a2 n2 q2, .slice a3 n3 q3, .slice (some ⟨b, 0, none⟩) 1 q4] 28)) (.cells #[.int .i64 0, .int .i64 0] 31)
  simpa using this
 have hbo : w2.cell? ⟨b, 3, none⟩ = some (.slice (some ⟨d, 0, none⟩) 3 dap) := by rw [b2.cell (p := ⟨b, 3, none⟩) hb]; exact hcb
 have L1 := lt_at (w := w2) (b := d) (o := 32) (fun q c hq => by rw [b2.cell (p := ⟨d, 32 + q, none⟩) hd]; exact hcd q c hq)
 have N1 := lt_put w2 h16
 obtain ⟨w3, hw3⟩ : ∃ w3, w3 = w2.alloc (.cells #[c0, c1, c2, c3, .string ⟨#[60]⟩, c5, c6, c7, c8, c9, c10, .int .i64 (-3), c12, c13, c14, .int .i64 29] 90) := ⟨_, rfl⟩
 have b3 : Below w1.heap.size w1 w3 := by rw [hw3]; exact b2.alloc b2.size _
 have m3 : w3.heap[w2.heap.size]? = some (.cells #[c0, c1, c2, c3, .string ⟨#[60]⟩, c5, c6, c7, c8, c9, c10, .int .i64 (-3), c12, c13, c14, .int .i64 29] 90 (0, 0)) := by rw [hw3]; exact heap_alloc_new w2 _
 have p3 := ((by rw [hw3, Below.heap_alloc _ _ _ (by omega)] : w3.heap[w1.heap.size]? = w2.heap[w1.heap.size]?)).trans p2
 have hsm := Qdn live live _ w3 _ _ _ _ _ _ _ _ _ _ (Qbe.same _ _ w3 _ _ hP b3.size (fun b _ hl => b3.block b hl)) (Qbe.same _ _ w3 _ _ hP b3.size (fun b _ hl => b3.block b hl))
 rw [Qpb] at hsm
 rw [s2] at m3
 obtain ⟨x0, x1, x2, x3, x4, xf⟩ := cl5 p2
 obtain ⟨y0, y1, y2, y3, y4, yf⟩ := cl5 p3
 obtain ⟨z0, z1, zf⟩ := cl2 f2
 obtain ⟨u0, u1, u2, u3, u4, u5, u6, u7, u8, u9, u10, u11, u12, u13, u14, u15, uf⟩ := cl16 m3
 rw [← hw3, s2] at N1
 have HB := hide (Ya b1 b3)
 clear hP b1 hb hcb hd hcd h16 b2 s2 p2 f2 hw3 b3 m3 p3 u0 u1 u2 u3 u5 u6 u7 u8 u9 u10 u12 u13 u14
 subst hw2
 go_wp2_with fail
 refine hsm.mono ?_
 clear hsm
 rintro e w4 ⟨rfl, b4⟩
 have B4 := hide b4
 clear b4
 go_wp2_with fail
 go_ret
 obtain ⟨b1, b3⟩ := Qa HB
 exact ⟨rfl, (b1.trans (b3.mono b1.size)).trans ((Qa B4).mono (Nat.le_trans b1.size b3.size))⟩
end
section
open Go.RowKit
def SlAt (w : World) (v : Value) (toks : List Tok) : Prop := ∃ ao cap, v = .slice ao toks.length cap ∧ toks.length ≤ cap ∧ cap ≤ maxLen ∧ (toks = [] ∨ ∃ g, ao = some ⟨g, 0, none⟩ ∧ RowAt w g cap toks)
theorem SlAt.later {w w' : World} {v : Value} {toks : List Tok} (h : SlAt w v toks) (hb : Below w.heap.size w w') : SlAt w' v toks := by
 obtain ⟨ao, cap, hv, h1, h2, h3⟩ := h
 refine ⟨ao, cap, hv, h1, h2, ?_⟩
 rcases h3 with h | ⟨g, hg, hr⟩
 · exact .inl h
 · exact .inr ⟨g, hg, hr.later hb⟩
def Alike (p : Bool) (x y : Tok) : Prop := x.kind = y.kind ∧ x.text = y.text ∧ x.num = y.num ∧ (p = true → x.at_ = y.at_)
end
section
open Go.RowKit
theorem Qc (why a : Int) (w : World) :
  Calls Tryz.prog 40 #[.int .i64 why, .int .i64 a] w fun e w' => e = .returned (.agg #[.int .i64 why, .int .i64 a]) ∧ Below w.heap.size w w' := by
 go_enter Tryz.func40, Tryz.ntmps40
 go_wp2_with fail
 refine bodyPost_ret (v := .agg #[.int .i64 why, .int .i64 a]) (by simp [results, Tryz.results40, go_sem]) rfl ?_
 exact ⟨rfl, (Below.refl _ w).alloc (Nat.le_refl _) _⟩

def gapV (k : Nat) : G → Int
 | .none => (k : Int)
 | .gap n => (k : Int) + (n : Int)
 | .never => -1
theorem ln_at {s : ByteArray} {k m : Nat} (h : m < s.size) (hd : ¬ bv s[m] = 10) (hh : k + lnLen (s.data.toList.drop k) = m + lnLen (s.data.toList.drop m)) :
  k + lnLen (s.data.toList.drop k) = (m + 1) + lnLen (s.data.toList.drop (m + 1)) := by
 rw [Qaj s m h] at hh
 have : lnLen (s[m] :: s.data.toList.drop (m + 1)) = lnLen (s.data.toList.drop (m + 1)) + 1 := by
  unfold lnLen
  rw [if_neg (fun e => hd (by rw [e]; rfl))]
  cases s.data.toList.drop (m + 1) <;> rfl
 omega
theorem Qti {s : ByteArray} {k m : Nat} (h : ∀ hm : m < s.size, bv s[m] = 10) (hh : k + lnLen (s.data.toList.drop k) = m + lnLen (s.data.toList.drop m)) : k + lnLen (s.data.toList.drop k) = m := by
 by_cases hm : m < s.size
 ·
  have e : s[m] = 10 := (Qdj (k := 10) (by omega)).1 (h hm)
  rw [Qaj s m hm, e] at hh
  simp [lnLen] at hh
  exact hh
 rw [Qbi s m (by omega)] at hh
 exact hh
theorem ce_at {s : ByteArray} {m : Nat} (h : m < s.size) (hp : pre [42, 47] (s.data.toList.drop m) = false) : cEnd (s.data.toList.drop m) = (cEnd (s.data.toList.drop (m + 1))).map (· + 1) := by
 rw [Qaj s m h] at hp ⊢
 rw [cEnd, if_neg (by rw [hp]; simp)]
theorem ce_hit {s : ByteArray} {m : Nat} (h : m < s.size) (hp : pre [42, 47] (s.data.toList.drop m) = true) : cEnd (s.data.toList.drop m) = some 0 := by
 rw [Qaj s m h] at hp ⊢
 rw [cEnd, if_pos hp]
def CeAt (s : ByteArray) (k m : Nat) : Prop := k ≤ m ∧ m ≤ s.size ∧ cEnd (s.data.toList.drop k) = (cEnd (s.data.toList.drop m)).map (· + (m - k))
theorem CeAt.step {s : ByteArray} {k m : Nat} (h : CeAt s k m) (hm : m < s.size) (hp : pre [42, 47] (s.data.toList.drop m) = false) : CeAt s k (m + 1) := by
 obtain ⟨h1, h2, h3⟩ := h
 refine ⟨by omega, by omega, ?_⟩
 rw [h3, ce_at hm hp, Option.map_map]
 cases cEnd (s.data.toList.drop (m + 1)) with
 | none => rfl
 | some j => simp; omega

theorem Qsk (s : ByteArray) (k : Nat) (hk : k < s.size) (hs : s.size ≤ 140737488355328) (w : World) :
  Calls Tryz.prog 41 #[.string s, .int .i64 (k : Int)] w fun e w' => e = .returned (.int .i64 (gapV k (gapAt (s.data.toList.drop k)))) ∧ w' = w := by
 cases hb : isB (s[k].toNat : Int) with
 | true =>
  have H := hide (show gapV k (gapAt (s.data.toList.drop k)) = (k : Int) + 1 by rw [Qiz hk hb]; rfl)
  have hb' : (s[k].toNat : Int) = 32 ∨ (s[k].toNat : Int) = 9 ∨ (s[k].toNat : Int) = 10 ∨ (s[k].toNat : Int) = 13 := by
   simp only [isB, Bool.or_eq_true, decide_eq_true_eq] at hb; omega
  go_enter Tryz.func41, Tryz.ntmps41
  rcases hb' with e | e | e | e
  all_goals
   go_wp2_with fail
   go_ret
   exact ⟨Qax (Qa H).symm, rfl⟩
 | false =>
  have hb' : ¬ (s[k].toNat : Int) = 32 ∧ ¬ (s[k].toNat : Int) = 9 ∧ ¬ (s[k].toNat : Int) = 10 ∧ ¬ (s[k].toNat : Int) = 13 := by
   simp only [isB, Bool.or_eq_false_iff, decide_eq_false_iff_not] at hb; omega
  obtain ⟨n1, n2, n3, n4⟩ := hb'
  have m1 : ((s[k].toNat : Int) == 32) = false := beq_eq_false_iff_ne.2 n1
  have m2 : ((s[k].toNat : Int) == 9) = false := beq_eq_false_iff_ne.2 n2
  have m3 : ((s[k].toNat : Int) == 10) = false := beq_eq_false_iff_ne.2 n3
  have m4 : ((s[k].toNat : Int) == 13) = false := beq_eq_false_iff_ne.2 n4
  clear n1 n2 n4
  cases hp : pre [47, 47] (s.data.toList.drop k) with
  | true =>
   have HP := hide hp
   have H := hide (show gapV k (gapAt (s.data.toList.drop k)) = (k : Int) + (lnLen (s.data.toList.drop k) : Int) by rw [Qlq hk hb hp]; rfl)
   clear hp
   go_enter Tryz.func41, Tryz.ntmps41
   go_wp2_with (go_at_call 83; refine (Qen s _ k ⟨#[47, 47]⟩ true rfl (Qa HP) (by omega) hs (by decide) _).mono ?_; rintro e w' ⟨rfl, rfl⟩)
   go_loop [1] (fun i => ∃ m : Nat, i = .int .i64 (m : Int) ∧ m ≤ s.size ∧ Hid (k + lnLen (s.data.toList.drop k) = m + lnLen (s.data.toList.drop m))) (fun i => s.size - (intOf i).toNat)
   case atStart => exact ⟨k, rfl, by omega, hide rfl⟩
   obtain ⟨m, rfl, hm, HH⟩ := hrel
   by_cases hlt : m < s.size
   ·
    cases h10 : ((s[m].toNat : Int) != 10) with
    | true =>
     go_wp2_with fail
     go_round
     case rel => exact ⟨m + 1, by go_num, by omega, hide (ln_at hlt (bne_iff_ne.1 h10) (Qa HH))⟩
     case measure => simp [intOf]; omega
    | false =>
     go_wp2_with fail
     go_ret
     have e10 : (s[m].toNat : Int) = 10 := by simpa using h10
     exact ⟨Qax (by rw [Qa H]; have := Qti (fun _ => e10) (Qa HH); omega), rfl⟩
   go_wp2_with fail
   go_ret
   exact ⟨Qax (by rw [Qa H]; have := Qti (fun h => absurd h hlt) (Qa HH); omega), rfl⟩
  | false =>
   cases hq : pre [47, 42] (s.data.toList.drop k) with
   | false =>
    have HP := hide hp
    have HQ := hide hq
    have H := hide (show gapV k (gapAt (s.data.toList.drop k)) = (k : Int) by rw [Qoo hk hb hp hq]; rfl)
    clear hp hq
    go_enter Tryz.func41, Tryz.ntmps41
    go_wp2_with fail
    refine (Qen s _ k ⟨#[47, 47]⟩ false rfl (Qa HP) (by omega) hs (by decide) _).mono ?_
    rintro e w' ⟨rfl, rfl⟩
    go_wp2_with fail
    refine (Qen s _ k ⟨#[47, 42]⟩ false rfl (Qa HQ) (by omega) hs (by decide) _).mono ?_
    rintro e w' ⟨rfl, rfl⟩
    go_wp2_with fail
    go_ret
    exact ⟨Qax (Qa H).symm, rfl⟩
   | true =>
    have HP := hide hp
    have HQ := hide hq
    have h2 := Qq hq
    have H := hide (show gapV k (gapAt (s.data.toList.drop k)) = match cEnd (s.data.toList.drop (k + 2)) with | some n => (k : Int) + ((n + 4 : Nat) : Int) | none => -1 by
     rw [Qlp hk hb hp hq]; unfold cGap; cases cEnd (s.data.toList.drop (k + 2)) <;> rfl)
    clear hp hq
    go_enter Tryz.func41, Tryz.ntmps41
    go_wp2_with fail
    refine (Qen s _ k ⟨#[47, 47]⟩ false rfl (Qa HP) (by omega) hs (by decide) _).mono ?_
    rintro e w' ⟨rfl, rfl⟩
    go_wp2_with fail
    refine (Qen s _ k ⟨#[47, 42]⟩ true rfl (Qa HQ) (by omega) hs (by decide) _).mono ?_
    rintro e w' ⟨rfl, rfl⟩
    go_wp2_with fail
    go_loop [6] (fun i => ∃ m : Nat, i = .int .i64 (m : Int) ∧ Hid (CeAt s (k + 2) m)) (fun i => s.size - (intOf i).toNat)
    case atStart => exact ⟨k + 2, by go_num, hide ⟨Nat.le_refl _, h2, by rw [Nat.sub_self]; cases cEnd (s.data.toList.drop (k + 2)) <;> rfl⟩⟩
    obtain ⟨m, rfl, HH⟩ := hrel
    have hm := (Qa HH).2.1
    have hkm := (Qa HH).1
    by_cases hlt : m < s.size
    ·
     cases hr : pre [42, 47] (s.data.toList.drop m) with
     | true =>
      have HR := hide hr
      clear hr
      go_wp2_with (go_at_call 83; refine (Qen s _ m ⟨#[42, 47]⟩ true rfl (Qa HR) (by omega) hs (by decide) _).mono ?_; rintro e w' ⟨rfl, rfl⟩)
      go_ret
      refine ⟨Qax ?_, rfl⟩
      rw [Qa H, (Qa HH).2.2, ce_hit hlt (Qa HR), Option.map_some]
      show (m : Int) + 2 = (k : Int) + ((0 + (m - (k + 2)) + 4 : Nat) : Int)
      omega
     | false =>
      have HR := hide hr
      clear hr
      go_wp2_with (go_at_call 83; refine (Qen s _ m ⟨#[42, 47]⟩ false rfl (Qa HR) (by omega) hs (by decide) _).mono ?_; rintro e w' ⟨rfl, rfl⟩)
      go_round
      case rel => exact ⟨m + 1, by go_num, hide ((Qa HH).step hlt (Qa HR))⟩
      case measure => simp [intOf]; omega
    go_wp2_with fail
    go_ret
    refine ⟨Qax ?_, rfl⟩
    rw [Qa H, (Qa HH).2.2, Qbi s m (by omega)]
    rfl
end
section
open Go.RowKit
theorem Qoy {n : Int} : isD n = true ↔ 48 ≤ n ∧ n ≤ 57 := by simp [isD]
theorem Qrl : ∀ (l : Txt) (acc : Nat) (c : UInt8), vl acc (l ++ [c]) = vl acc l * 10 + (c.toNat - 48)
 | [], _, _ => rfl
 | _ :: l, _, c => Qrl l _ c
def vlAt (s : ByteArray) (k m : Nat) : Nat := vl 0 ((s.data.toList.drop k).take (m - k))
theorem Qho (s : ByteArray) (k : Nat) : vlAt s k k = 0 := by unfold vlAt; rw [Nat.sub_self]; rfl
theorem Qke {s : ByteArray} {k m : Nat} (hk : k ≤ m) (hm : m < s.size) : vlAt s k (m + 1) = vlAt s k m * 10 + (s[m].toNat - 48) := by
 unfold vlAt
 have e : m + 1 - k = (m - k) + 1 := by omega
 have hlen : m - k < (s.data.toList.drop k).length := by rw [Qaw]; omega
 have e2 : (s.data.toList.drop k)[m - k] = s[m] := by
  rw [List.getElem_drop]
  have e3 : k + (m - k) = m := by omega
  simp only [e3]
  rfl
 rw [e, List.take_succ_eq_append_getElem hlen, Qrl, e2]
theorem dg_more {s : ByteArray} {k m : Nat} (hk : k < s.size) (h1 : k ≤ m) (h2 : m < k + dgLen (s.data.toList.drop k)) (hd : isD (bv s[k]) = true) : ∃ hm : m < s.size, isD (bv s[m]) = true ∧ (m = k ∨ ¬ bv s[k] = 48) := by
 by_cases h0 : bv s[k] = 48
 ·
  rw [Qki hk h0] at h2
  have e : m = k := by omega
  subst e
  exact ⟨hk, hd, .inl rfl⟩
 rw [Qhv hk h0] at h2
 obtain ⟨j, rfl⟩ : ∃ j, m = k + j := ⟨m - k, by omega⟩
 have key : ∀ (j : Nat) (k : Nat), j < dcn (s.data.toList.drop k) → ∃ hm : k + j < s.size, isD (bv s[k + j]) = true := by
  intro j
  induction j with
  | zero =>
   intro k h
   by_cases hk : k < s.size
   ·
    rw [Qaj s k hk] at h
    cases hd : isD (bv s[k]) with
    | true => exact ⟨hk, hd⟩
    | false => simp [dcn, hd] at h
   · rw [Qbi s k (by omega)] at h; simp [dcn] at h
  | succ j ih =>
   intro k h
   by_cases hk : k < s.size
   ·
    rw [Qaj s k hk] at h
    cases hd : isD (bv s[k]) with
    | false => simp [dcn, hd] at h
    | true =>
     have : j < dcn (s.data.toList.drop (k + 1)) := by simp [dcn, hd] at h; omega
     obtain ⟨h1, h2⟩ := ih (k + 1) this
     have e : k + (j + 1) = k + 1 + j := by omega
     simp only [e]
     exact ⟨h1, h2⟩
   · rw [Qbi s k (by omega)] at h; simp [dcn] at h
 obtain ⟨h3, h4⟩ := key j k (by omega)
 exact ⟨h3, h4, .inr h0⟩
theorem dg_stop {s : ByteArray} {k m : Nat} (hk : k < s.size) (h2 : m = k + dgLen (s.data.toList.drop k)) (hm : m < s.size) : isD (bv s[m]) = false ∨ (¬ m = k ∧ bv s[k] = 48) := by
 by_cases h0 : bv s[k] = 48
 ·
  rw [Qki hk h0] at h2
  exact .inr ⟨by omega, h0⟩
 left
 rw [Qhv hk h0] at h2
 have key : ∀ (j : Nat) (k : Nat), j = dcn (s.data.toList.drop k) → ∀ hm : k + j < s.size, isD (bv s[k + j]) = false := by
  intro j
  induction j with
  | zero =>
   intro k h hm
   have hk : k < s.size := hm
   rw [Qaj s k hk] at h
   cases hd : isD (bv s[k]) with
   | false => first | exact hd | rfl
   | true => simp [dcn, hd] at h
  | succ j ih =>
   intro k h hm
   by_cases hk : k < s.size
   ·
    rw [Qaj s k hk] at h
    cases hd : isD (bv s[k]) with
    | false => simp [dcn, hd] at h
    | true =>
     have h5 : j = dcn (s.data.toList.drop (k + 1)) := by simp [dcn, hd] at h; omega
     have e : k + (j + 1) = k + 1 + j := by omega
     simp only [e]
     exact ih (k + 1) h5 (by omega)
   · omega
 subst h2
 exact key _ k rfl hm

structure NuI (s : ByteArray) (k m : Nat) (n : Int) (ov : Bool) : Prop where
 h1 : k ≤ m
 h2 : m ≤ k + dgLen (s.data.toList.drop k)
 v : ov = decide (9223372036854775807 < vlAt s k m)
 n0 : 0 ≤ n
 n1 : n ≤ 9223372036854775807
 n : ov = false → n = (vlAt s k m : Int)
theorem NuI.over {s : ByteArray} {k m : Nat} {n : Int} (h : NuI s k m n true) (hm : m < s.size) (hlt : m < k + dgLen (s.data.toList.drop k)) : NuI s k (m + 1) n true := by
 refine ⟨by have := h.h1; omega, by omega, ?_, h.n0, h.n1, (fun e => by cases e)⟩
 have hv := of_decide_eq_true h.v.symm
 rw [eq_comm, decide_eq_true_eq, Qke h.h1 hm]; omega
theorem NuI.step {s : ByteArray} {k m : Nat} {n : Int} (h : NuI s k m n false) (hm : m < s.size) (hlt : m < k + dgLen (s.data.toList.drop k)) (hd : isD (bv s[m]) = true) :
  (¬ (9223372036854775807 - ((s[m].toNat : Int) - 48)) / 10 < n → NuI s k (m + 1) (n * 10 + ((s[m].toNat : Int) - 48)) false) ∧ ((9223372036854775807 - ((s[m].toNat : Int) - 48)) / 10 < n → NuI s k (m + 1) n true) := by
 have hv := h.n rfl
 have hd' : 48 ≤ (s[m].toNat : Int) ∧ (s[m].toNat : Int) ≤ 57 := by
  exact Qoy.1 hd
 have e := Qke h.h1 hm
 have n0 := h.n0
 constructor
 ·
  intro hlt2
  refine ⟨by have := h.h1; omega, by omega, ?_, by omega, by omega, fun _ => by rw [e]; omega⟩
  rw [eq_comm, decide_eq_false_iff_not, e]; omega
 intro hlt2
 refine ⟨by have := h.h1; omega, by omega, ?_, h.n0, h.n1, (fun e => by cases e)⟩
 rw [eq_comm, decide_eq_true_eq, e]; omega

theorem Qkt (s : ByteArray) (k : Nat) (hk : k < s.size) (hdg : isD (bv s[k]) = true) (hs : s.size ≤ 65536) (w : World) :
  Calls Tryz.prog 44 #[.string s, .int .i64 (k : Int)] w fun e w' => e = .returned (resT k (dgRes (s.data.toList.drop k))).val ∧ Below w.heap.size w w' := by
 have hb := Qdg w
 have hle := Qrs (s.data.toList.drop k)
 rw [Qaw] at hle
 have HD := hide hdg
 obtain ⟨L, hL⟩ : ∃ L, dgLen (s.data.toList.drop k) = L := ⟨_, rfl⟩
 have HL := hide hL
 rw [hL] at hle
 clear hdg hL
 go_enter Tryz.func44, Tryz.ntmps44
 go_wp2_with fail
 go_loop [7, 8, 9] (fun i nv ov => ∃ (m : Nat) (n : Int) (o : Bool), i = .int .i64 (m : Int) ∧ nv = .int .i64 n ∧ ov = .bool o ∧ m ≤ k + L ∧ 0 ≤ n ∧ n ≤ 9223372036854775807 ∧ Hid (NuI s k m n o)) (fun i _ _ => k + L - (intOf i).toNat)
 case atStart => exact ⟨k, 0, false, rfl, rfl, rfl, by omega, by omega, by omega, hide ⟨Nat.le_refl _, by omega, by rw [Qho]; rfl, by omega, by omega, fun _ => by rw [Qho]; rfl⟩⟩
 obtain ⟨m, n, o, rfl, rfl, rfl, hmL, n0, n1, HH⟩ := hrel
 have hkm := (Qa HH).h1
 by_cases hlt : m < k + L
 ·
  obtain ⟨hms, hdm, hor⟩ := dg_more hk hkm (by rw [Qa HL]; exact hlt) (Qa HD)
  have hdm2 : isD (s[m].toNat : Int) = true := hdm
  have hd48 : 48 ≤ (s[m].toNat : Int) ∧ (s[m].toNat : Int) ≤ 57 := by
   exact Qoy.1 hdm
  obtain ⟨d1, d2⟩ := hd48
  have HDM := hide hdm
  clear hdm
  have hf : ((m : Int) == (k : Int)) = true ∨ (((m : Int) == (k : Int)) = false ∧ ((s[k].toNat : Int) != 48) = true) := by
   by_cases e : m = k
   · left; rw [beq_iff_eq, e]
   right
   refine ⟨beq_eq_false_iff_ne.2 (by omega), bne_iff_ne.2 ?_⟩
   rcases hor with h | h
   · exact absurd h e
   · exact h
  clear hor
  cases o
  ·
   have HN := hide ((Qa HH).step hms (by rw [Qa HL]; exact hlt) (Qa HDM))
   by_cases hov : (9223372036854775807 - ((s[m].toNat : Int) - 48)) / 10 < n
   ·
    have hov2 : decide ((9223372036854775807 - ((s[m].toNat : Int) - 48)) / 10 < n) = true := decide_eq_true hov
    have HV := hide hov
    clear hov
    rcases hf with hf | ⟨hf, hf2⟩
    all_goals
     go_wp2_with (go_at_call 43; refine (Qbv _ _).mono ?_; rintro e w' ⟨rfl, rfl⟩; rw [hdm2])
     go_round
     case rel => exact ⟨m + 1, n, true, by go_num, rfl, rfl, by omega, n0, n1, hide ((Qa HN).2 (Qa HV))⟩
     case measure => simp [intOf]; omega
   have hov2 : decide ((9223372036854775807 - ((s[m].toNat : Int) - 48)) / 10 < n) = false := decide_eq_false hov
   have hw1 : wrap64 (n * 10) = n * 10 := by unfold wrap64; omega
   have hw2 : wrap64 (n * 10 + ((s[m].toNat : Int) - 48)) = n * 10 + ((s[m].toNat : Int) - 48) := by unfold wrap64; omega
   have HV := hide hov
   have b0 : 0 ≤ n * 10 + ((s[m].toNat : Int) - 48) := by omega
   have b1 : n * 10 + ((s[m].toNat : Int) - 48) ≤ 9223372036854775807 := by omega
   have HB0 := hide b0
   have HB1 := hide b1
   clear hov b0 b1
   rcases hf with hf | ⟨hf, hf2⟩
   all_goals
    go_wp2_with (go_at_call 43; refine (Qbv _ _).mono ?_; rintro e w' ⟨rfl, rfl⟩; rw [hdm2])
    go_round
    case rel => exact ⟨m + 1, n * 10 + ((s[m].toNat : Int) - 48), false, by go_num, by first | rfl | (rw [hw2]), rfl, by omega, Qa HB0, Qa HB1, hide ((Qa HN).1 (Qa HV))⟩
    case measure => simp [intOf]; omega
  have HN := hide ((Qa HH).over hms (by rw [Qa HL]; exact hlt))
  rcases hf with hf | ⟨hf, hf2⟩
  ·
   go_wp2_with (go_at_call 43; refine (Qbv _ _).mono ?_; rintro e w' ⟨rfl, rfl⟩; rw [hdm2])
   go_round
   case rel => exact ⟨m + 1, n, true, by go_num, rfl, rfl, by omega, n0, n1, HN⟩
   case measure => simp [intOf]; omega
  go_wp2_with (go_at_call 43; refine (Qbv _ _).mono ?_; rintro e w' ⟨rfl, rfl⟩; rw [hdm2])
  go_round
  case rel => exact ⟨m + 1, n, true, by go_num, rfl, rfl, by omega, n0, n1, HN⟩
  case measure => simp [intOf]; omega
 have eL : m = k + L := by omega
 have hV := (Qa HH).v
 have hNv := (Qa HH).n
 have HRES := hide (show dgRes (s.data.toList.drop k) = if noW (s.data.toList.drop m) = false then .bad 7 L else if 9223372036854775807 < vlAt s k m then .bad 8 0 else .tok 2 [] (vlAt s k m) L by
  unfold dgRes vlAt
  rw [Qa HL, List.drop_drop, ← eL, show m - k = L by omega])
 have HST := hide (fun hm => dg_stop hk (show m = k + dgLen (s.data.toList.drop k) by rw [Qa HL]; exact eL) hm)
 have HEL := hide eL
 clear eL
 clear HH hkm
 by_cases hms : m < s.size
 ·
  cases hdm2 : isD (s[m].toNat : Int) with
  | true =>
   obtain ⟨e1, e2⟩ : ¬ m = k ∧ bv s[k] = 48 := by
    rcases Qa HST hms with h | h
    · rw [show isD (bv s[m]) = true from hdm2] at h; cases h
    · exact h
   have hf : ((m : Int) == (k : Int)) = false := beq_eq_false_iff_ne.2 (by omega)
   have hf2 : ((s[k].toNat : Int) != 48) = false := by rw [show (s[k].toNat : Int) = 48 from e2]; rfl
   have hwm : noW (s.data.toList.drop m) = false := by rw [Qjg hms, inW_D (show isD (bv s[m]) = true from hdm2)]; rfl
   have H := hide (show resT k (dgRes (s.data.toList.drop k)) = ⟨0, ⟨#[]⟩, 0, 0, 0, 7, (m : Int)⟩ by
    have e := Qa HRES
    rw [if_pos hwm] at e
    rw [e, resT, ← Qa HEL])
   clear hV hNv HRES HST hwm e1 e2
   go_wp2_with (go_at_call 43; refine (Qbv _ _).mono ?_; rintro e w' ⟨rfl, rfl⟩; rw [hdm2])
   refine (Qc _ _ _).mono ?_
   rintro e w2 ⟨rfl, b2⟩
   have bx := Qaq (w := w) (w2 := w2) (by simpa using b2)
   have bw : Below w.heap.size w w2 := hb.trans (b2.mono (by simp; omega))
   obtain ⟨x0, x1, x2, x3, y0, y1, fx, fy⟩ := bx
   clear b2 hb
   go_wp2_with fail
   refine bodyPost_ret (v := TV.val ⟨0, ⟨#[]⟩, 0, 0, 0, 7, (m : Int)⟩) (by simp [results, Tryz.results44, go_sem, x0, x1, x2, x3, y0, y1]) rfl ?_
   exact ⟨Qbz (Qa H).symm, Qan bw (Nat.le_refl _) (Nat.le_succ _) _ _ _ _ _ _⟩
  | false =>
   cases hl : isL (s[m].toNat : Int) with
   | true =>
    have hwm : noW (s.data.toList.drop m) = false := by rw [Qjg hms, Qox (show isL (bv s[m]) = true from hl)]; rfl
    have H := hide (show resT k (dgRes (s.data.toList.drop k)) = ⟨0, ⟨#[]⟩, 0, 0, 0, 7, (m : Int)⟩ by
     have e := Qa HRES
     rw [if_pos hwm] at e
     rw [e, resT, ← Qa HEL])
    clear hV hNv HRES HST hwm
    go_wp2_with (first
     | (go_at_call 43; refine (Qbv _ _).mono ?_; rintro e w' ⟨rfl, rfl⟩; rw [hdm2])
     | (go_at_call 85; refine (Qcl _ _).mono ?_; rintro e w' ⟨rfl, rfl⟩; rw [hl]))
    refine (Qc _ _ _).mono ?_
    rintro e w2 ⟨rfl, b2⟩
    have bx := Qaq (w := w) (w2 := w2) (by simpa using b2)
    have bw : Below w.heap.size w w2 := hb.trans (b2.mono (by simp; omega))
    obtain ⟨x0, x1, x2, x3, y0, y1, fx, fy⟩ := bx
    clear b2 hb
    go_wp2_with fail
    refine bodyPost_ret (v := TV.val ⟨0, ⟨#[]⟩, 0, 0, 0, 7, (m : Int)⟩) (by simp [results, Tryz.results44, go_sem, x0, x1, x2, x3, y0, y1]) rfl ?_
    exact ⟨Qbz (Qa H).symm, Qan bw (Nat.le_refl _) (Nat.le_succ _) _ _ _ _ _ _⟩
   | false =>
    have hwm : noW (s.data.toList.drop m) = true := by rw [Qjg hms]; unfold inW; rw [show isL (bv s[m]) = false from hl, show isD (bv s[m]) = false from hdm2]; rfl
    cases o
    ·
     have H := hide (show resT k (dgRes (s.data.toList.drop k)) = ⟨2, ⟨#[]⟩, n, (k : Int), (m : Int), 0, 0⟩ by
      have e := Qa HRES
      rw [if_neg (by rw [show noW (s.data.toList.drop m) = true from hwm]; simp), if_neg (of_decide_eq_false hV.symm)] at e
      have := Qa HEL
      rw [e, resT, ← hNv rfl]; simp; omega)
     clear hV hNv HRES
     clear HST hwm
     go_wp2_with (first
      | (go_at_call 43; refine (Qbv _ _).mono ?_; rintro e w' ⟨rfl, rfl⟩; rw [hdm2])
      | (go_at_call 85; refine (Qcl _ _).mono ?_; rintro e w' ⟨rfl, rfl⟩; rw [hl]))
     refine bodyPost_ret (v := TV.val ⟨2, ⟨#[]⟩, n, (k : Int), (m : Int), 0, 0⟩) (by simp [results, Tryz.results44, go_sem]) rfl ?_
     exact ⟨Qbz (Qa H).symm, ((Below.refl _ w).alloc (Nat.le_refl _) _).alloc (by simp) _⟩
    have H := hide (show resT k (dgRes (s.data.toList.drop k)) = ⟨0, ⟨#[]⟩, 0, 0, 0, 8, (k : Int)⟩ by
     have e := Qa HRES
     rw [if_neg (by rw [show noW (s.data.toList.drop m) = true from hwm]; simp), if_pos (of_decide_eq_true hV.symm)] at e
     rw [e]; simp [resT])
    clear hV hNv HRES
    clear HST hwm
    go_wp2_with (first
     | (go_at_call 43; refine (Qbv _ _).mono ?_; rintro e w' ⟨rfl, rfl⟩; rw [hdm2])
     | (go_at_call 85; refine (Qcl _ _).mono ?_; rintro e w' ⟨rfl, rfl⟩; rw [hl]))
    refine (Qc _ _ _).mono ?_
    rintro e w2 ⟨rfl, b2⟩
    have bx := Qaq (w := w) (w2 := w2) (by simpa using b2)
    have bw : Below w.heap.size w w2 := hb.trans (b2.mono (by simp; omega))
    obtain ⟨x0, x1, x2, x3, y0, y1, fx, fy⟩ := bx
    clear b2 hb
    go_wp2_with fail
    refine bodyPost_ret (v := TV.val ⟨0, ⟨#[]⟩, 0, 0, 0, 8, (k : Int)⟩) (by simp [results, Tryz.results44, go_sem, x0, x1, x2, x3, y0, y1]) rfl ?_
    exact ⟨Qbz (Qa H).symm, Qan bw (Nat.le_refl _) (Nat.le_succ _) _ _ _ _ _ _⟩
 have hwm : noW (s.data.toList.drop m) = true := by rw [Qbi s m (by omega)]; rfl
 cases o
 ·
  have H := hide (show resT k (dgRes (s.data.toList.drop k)) = ⟨2, ⟨#[]⟩, n, (k : Int), (m : Int), 0, 0⟩ by
   have e := Qa HRES
   rw [if_neg (by rw [show noW (s.data.toList.drop m) = true from hwm]; simp), if_neg (of_decide_eq_false hV.symm)] at e
   have := Qa HEL
   rw [e, resT, ← hNv rfl]; simp; omega)
  clear hV hNv HRES
  clear HST hwm
  go_wp2_with fail
  refine bodyPost_ret (v := TV.val ⟨2, ⟨#[]⟩, n, (k : Int), (m : Int), 0, 0⟩) (by simp [results, Tryz.results44, go_sem]) rfl ?_
  exact ⟨Qbz (Qa H).symm, ((Below.refl _ w).alloc (Nat.le_refl _) _).alloc (by simp) _⟩
 have H := hide (show resT k (dgRes (s.data.toList.drop k)) = ⟨0, ⟨#[]⟩, 0, 0, 0, 8, (k : Int)⟩ by
  have e := Qa HRES
  rw [if_neg (by rw [show noW (s.data.toList.drop m) = true from hwm]; simp), if_pos (of_decide_eq_true hV.symm)] at e
  rw [e]; simp [resT])
 clear hV hNv HRES
 clear HST hwm
 go_wp2_with fail
 refine (Qc _ _ _).mono ?_
 rintro e w2 ⟨rfl, b2⟩
 have bx := Qaq (w := w) (w2 := w2) (by simpa using b2)
 have bw : Below w.heap.size w w2 := hb.trans (b2.mono (by simp; omega))
 obtain ⟨x0, x1, x2, x3, y0, y1, fx, fy⟩ := bx
 clear b2 hb
 go_wp2_with fail
 refine bodyPost_ret (v := TV.val ⟨0, ⟨#[]⟩, 0, 0, 0, 8, (k : Int)⟩) (by simp [results, Tryz.results44, go_sem, x0, x1, x2, x3, y0, y1]) rfl ?_
 exact ⟨Qbz (Qa H).symm, Qan bw (Nat.le_refl _) (Nat.le_succ _) _ _ _ _ _ _⟩
end
end Go.Proofs.YtjebglmpopijhaaGreatDoor
