/- syn: the laws' own probe answers true. Walk of the document's Same. Walks of the document's fault and gap. -/
import Derived.Test.YtcdobniommnflaaGreatDoorMf35
import Derived.Test.YtcdobniommnflaaGreatDoorMf30
namespace Go.Proofs.YtcdobniommnflaaGreatDoor
open Go.RowKit Go.Maps

def vx (c : UInt8) (a : Int) : Ex := .mk 1 0 [c] [] a
/-- The program of the laws' own probe. -/
def live : Pg := .mk [] [] [] [] [⟨⟨[112], [vx 120 2, vx 121 5], 0⟩, [⟨1, ⟨[101], [vx 120 13, vx 122 16], 11⟩, [], .none, .none, 11⟩, ⟨1, ⟨[112], [vx 122 22, vx 121 25], 20⟩, [], .none, .none, 20⟩, ⟨3, .none, [60], vx 120 29, .mk 2 (-3) [] [] 33, 29⟩], 0⟩]
set_option maxRecDepth 100000 in
theorem live_parse : parseP (⟨#[112, 40, 120, 44, 32, 121, 41, 32, 58, 45, 32, 101, 40, 120, 44, 32, 122, 41, 44, 32, 112, 40, 122, 44, 32, 121, 41, 44, 32, 120, 32, 60, 32, 45, 51, 46]⟩ : ByteArray).data.toList = .ok live [] 1 := by kernel_rfl
set_option maxRecDepth 100000 in
theorem live_same : eqPg live live = true := by kernel_rfl
attribute [local go_sem ↓] storeAt_lt loadAt_lt
theorem lt_at {w : World} {b o : Nat} {c0 c1 c2 c3 c4 c5 c6 c7 c8 c9 c10 c11 c12 c13 c14 c15 : Value} (h : ∀ q c, ([c0, c1, c2, c3, c4, c5, c6, c7, c8, c9, c10, c11, c12, c13, c14, c15] : List Value)[q]? = some c → w.cell? ⟨b, o + q, none⟩ = some c) : (ltLoad (.pointer (some ⟨b, o, none⟩))).run Tryz.prog w = .ok (.agg #[c0, c1, c2, c3, c4, c5, c6, c7, c8, c9, c10, c11, c12, c13, c14, c15]) w :=
  run_loadAt_mid w b o 93 [c0, c1, c2, c3, c4, c5, c6, c7, c8, c9, c10, c11, c12, c13, c14, c15] _ (fun q v hq => h q v hq) Tryz.underlying93 rfl size_lt
theorem lt_put (w : World) {c0 c1 c2 c3 c4 c5 c6 c7 c8 c9 c10 c11 c12 c13 c14 c15 : Value} (h1 : ∀ c ∈ ([c0, c1, c2, c3, c4, c5, c6, c7, c8, c9, c10, c11, c12, c13, c14, c15] : List Value), c.oneCell' = true) : (ltStore (.pointer (some ⟨w.heap.size, 0, none⟩)) (.agg #[c0, c1, c2, c3, c4, c5, c6, c7, c8, c9, c10, c11, c12, c13, c14, c15])).run Tryz.prog (w.alloc ltZ) = .ok () (w.alloc (.cells #[c0, c1, c2, c3, c4, c5, c6, c7, c8, c9, c10, c11, c12, c13, c14, c15] 93)) :=
  run_storeAt_new w 93 _ _ size_lt rfl (by simpa using h1)
theorem live_mem {S : Nat → Prop} {w : World} {a0 a1 a2 a3 a4 : Option Addr} {n0 q0 n1 q1 n2 q2 n3 q3 n4 q4 : Nat} (hP : PgS S w [.slice a0 n0 q0, .slice a1 n1 q1, .slice a2 n2 q2, .slice a3 n3 q3, .slice a4 n4 q4] live) : ∃ b d dap c0 c1 c2 c3 c5 c6 c7 c8 c9 c10 c12 c13 c14, a4 = some ⟨b, 0, none⟩ ∧ n4 = 1 ∧ b < w.heap.size ∧ w.cell? ⟨b, 3, none⟩ = some (.slice (some ⟨d, 0, none⟩) 3 dap) ∧ d < w.heap.size ∧ (∀ q c, ([c0, c1, c2, c3, .string ⟨#[60]⟩, c5, c6, c7, c8, c9, c10, .int .i64 (-3), c12, c13, c14, .int .i64 29] : List Value)[q]? = some c → w.cell? ⟨d, 32 + q, none⟩ = some c) ∧ ∀ c ∈ ([c0, c1, c2, c3, .string ⟨#[60]⟩, c5, c6, c7, c8, c9, c10, .int .i64 (-3), c12, c13, c14, .int .i64 29] : List Value), c.oneCell' = true := by
  obtain ⟨v0, v1, v2, v3, v4, ev, h0, h1, h2, h3, h4⟩ := hP.cells
  obtain ⟨rfl, rfl, rfl, rfl, rfl⟩ := list5 ev
  obtain ⟨b, cap, cs, e1, hb, _, hl, hq, hc⟩ := h4.elem (j := 0) rfl
  obtain ⟨aa, an, ac, ba, bn, bc, rfl, _, hB⟩ := hq
  obtain ⟨d, dap, ds, e2, hd, _, hdl, hdq, hdc⟩ := hB.elem (j := 2) rfl
  have h16 := plt_one hdq
  obtain ⟨ua, un, uc, xa, xn, xc, ya, yn, yc, rfl, _, _, _⟩ := hdq
  simp only [Value.slice.injEq] at e1
  have hbody := hc 3 _ rfl
  rw [e2] at hbody
  exact ⟨b, d, dap, _, _, _, _, _, _, _, _, _, _, _, _, _, e1.1, e1.2.1, hb, hbody, hd, hdc, h16⟩
set_option maxRecDepth 100000 in
set_option maxHeartbeats 8000000 in
theorem alive9_any (w : World) (hE : Env w) : Calls Tryz.prog 12 #[] w fun e w' => e = .returned (.bool true) ∧ Below w.heap.size w w' := by
  have H1 := parse_any ⟨#[112, 40, 120, 44, 32, 121, 41, 32, 58, 45, 32, 101, 40, 120, 44, 32, 122, 41, 44, 32, 112, 40, 122, 44, 32, 121, 41, 44, 32, 120, 32, 60, 32, 45, 51, 46]⟩ (by decide) w hE
  rw [live_parse] at H1
  clear hE
  go_enter Tryz.func12, Tryz.ntmps12
  go_wp2_with fail
  refine H1.mono ?_
  clear H1
  rintro e w1 ⟨_, rfl, ⟨a0, n0, q0, a1, n1, q1, a2, n2, q2, a3, n3, q3, a4, n4, q4, rfl, hP⟩, b1⟩
  obtain ⟨b, d, dap, c0, c1, c2, c3, c5, c6, c7, c8, c9, c10, c12, c13, c14, rfl, rfl, hb, hcb, hd, hcd, h16⟩ := live_mem hP
  obtain ⟨w2, hw2⟩ : ∃ w2, w2 = (w1.alloc (.cells #[.slice a0 n0 q0, .slice a1 n1 q1, .slice a2 n2 q2, .slice a3 n3 q3, .slice (some ⟨b, 0, none⟩) 1 q4] 28)).alloc (.cells #[.int .i64 0, .int .i64 0] 31) := ⟨_, rfl⟩
  have b2 : Below w1.heap.size w1 w2 := by rw [hw2]; exact ((Below.refl _ w1).alloc (Nat.le_refl _) _).alloc (by simp) _
  have s2 : w2.heap.size = w1.heap.size + 1 + 1 := by rw [hw2]; simp
  have p2 : w2.heap[w1.heap.size]? = some (.cells #[.slice a0 n0 q0, .slice a1 n1 q1, .slice a2 n2 q2, .slice a3 n3 q3, .slice (some ⟨b, 0, none⟩) 1 q4] 28 (0, 0)) := by rw [hw2, Below.heap_alloc _ _ _ (by simp)]; exact heap_alloc_new w1 _
  have f2 : w2.heap[w1.heap.size + 1]? = some (.cells #[.int .i64 0, .int .i64 0] 31 (0, 0)) := by
    rw [hw2]
    have := heap_alloc_new (w1.alloc (.cells #[.slice a0 n0 q0, .slice a1 n1 q1, .slice a2 n2 q2, .slice a3 n3 q3, .slice (some ⟨b, 0, none⟩) 1 q4] 28)) (.cells #[.int .i64 0, .int .i64 0] 31)
    simpa using this
  have hbo : w2.cell? ⟨b, 3, none⟩ = some (.slice (some ⟨d, 0, none⟩) 3 dap) := by rw [b2.cell (p := ⟨b, 3, none⟩) hb]; exact hcb
  have L1 := lt_at (w := w2) (b := d) (o := 32) (fun q c hq => by rw [b2.cell (p := ⟨d, 32 + q, none⟩) hd]; exact hcd q c hq)
  have N1 := lt_put w2 h16
  obtain ⟨w3, hw3⟩ : ∃ w3, w3 = w2.alloc (.cells #[c0, c1, c2, c3, .string ⟨#[60]⟩, c5, c6, c7, c8, c9, c10, .int .i64 (-3), c12, c13, c14, .int .i64 29] 93) := ⟨_, rfl⟩
  have b3 : Below w1.heap.size w1 w3 := by rw [hw3]; exact b2.alloc b2.size _
  have m3 : w3.heap[w2.heap.size]? = some (.cells #[c0, c1, c2, c3, .string ⟨#[60]⟩, c5, c6, c7, c8, c9, c10, .int .i64 (-3), c12, c13, c14, .int .i64 29] 93 (0, 0)) := by rw [hw3]; exact heap_alloc_new w2 _
  have p3 := ((by rw [hw3, Below.heap_alloc _ _ _ (by omega)] : w3.heap[w1.heap.size]? = w2.heap[w1.heap.size]?)).trans p2
  have hsm := samePg_any live live _ w3 _ _ _ _ _ _ _ _ _ _ (pgS_ok.same _ _ w3 _ _ hP b3.size (fun b _ hl => b3.block b hl)) (pgS_ok.same _ _ w3 _ _ hP b3.size (fun b _ hl => b3.block b hl))
  rw [live_same] at hsm
  rw [s2] at m3
  obtain ⟨x0, x1, x2, x3, x4, xf⟩ := cl5 p2
  obtain ⟨y0, y1, y2, y3, y4, yf⟩ := cl5 p3
  obtain ⟨z0, z1, zf⟩ := cl2 f2
  obtain ⟨u0, u1, u2, u3, u4, u5, u6, u7, u8, u9, u10, u11, u12, u13, u14, u15, uf⟩ := cl16 m3
  rw [← hw3, s2] at N1
  have HB := hide (And.intro b1 b3)
  clear hP b1 hb hcb hd hcd h16 b2 s2 p2 f2 hw3 b3 m3 p3 u0 u1 u2 u3 u5 u6 u7 u8 u9 u10 u12 u13 u14
  subst hw2
  go_wp2_with fail
  refine hsm.mono ?_
  clear hsm
  rintro e w4 ⟨rfl, b4⟩
  have B4 := hide b4
  clear b4
  go_wp2_with fail
  go_ret
  obtain ⟨b1, b3⟩ := unhide HB
  exact ⟨rfl, (b1.trans (b3.mono b1.size)).trans ((unhide B4).mono (Nat.le_trans b1.size b3.size))⟩
end Go.Proofs.YtcdobniommnflaaGreatDoor

namespace Go.Proofs.YtcdobniommnflaaGreatDoor
open Go.RowKit

/-- A slice of tokens, wherever it lies. -/
def SlAt (w : World) (v : Value) (toks : List Tok) : Prop := ∃ ao cap, v = .slice ao toks.length cap ∧ toks.length ≤ cap ∧ cap ≤ maxLen ∧ (toks = [] ∨ ∃ g, ao = some ⟨g, 0, none⟩ ∧ RowAt w g cap toks)
theorem slAt_of {w : World} {B : Nat} {v : Value} {toks : List Tok} (h : w.ownsRow B 42 4 v toks.length (tokCells toks)) : SlAt w v toks := by
  rcases row_of h with ⟨rfl, rfl⟩ | ⟨g, cap, rfl, hr⟩
  · exact ⟨none, 0, rfl, Nat.le_refl _, Nat.zero_le _, .inl rfl⟩
  · exact ⟨_, cap, rfl, hr.le, hr.cm, .inr ⟨g, rfl, hr⟩⟩
theorem SlAt.later {w w' : World} {v : Value} {toks : List Tok} (h : SlAt w v toks) (hb : Below w.heap.size w w') : SlAt w' v toks := by
  obtain ⟨ao, cap, hv, h1, h2, h3⟩ := h
  refine ⟨ao, cap, hv, h1, h2, ?_⟩
  rcases h3 with h | ⟨g, hg, hr⟩
  · exact .inl h
  · exact .inr ⟨g, hg, hr.later hb⟩
def Alike (p : Bool) (x y : Tok) : Prop := x.kind = y.kind ∧ x.text = y.text ∧ x.num = y.num ∧ (p = true → x.at_ = y.at_)

set_option maxRecDepth 100000 in
set_option maxHeartbeats 4000000 in
theorem same_any (p : Bool) (v1 v2 : Value) (l1 l2 : List Tok) (w : World) (h1 : SlAt w v1 l1) (h2 : SlAt w v2 l2) (hl : l1.length = l2.length) (ha : ∀ (i : Nat) (x y : Tok), l1[i]? = some x → l2[i]? = some y → Alike p x y) :
    Calls Tryz.prog 15 #[v1, v2, .bool p] w fun e w' => e = .returned (.bool true) ∧ Below w.heap.size w w' := by
  obtain ⟨a1, c1, rfl, l1c, m1, r1⟩ := h1
  obtain ⟨a2, c2, rfl, l2c, m2, r2⟩ := h2
  obtain ⟨n, hn⟩ : ∃ n, l1.length = n := ⟨_, rfl⟩
  have hn2 : l2.length = n := by omega
  rw [hn] at l1c ⊢
  rw [hn2] at l2c ⊢
  unfold maxLen at m1 m2
  have HN := hide (show l1.length = n ∧ l2.length = n from ⟨hn, hn2⟩)
  have HR1 := hide r1
  have HR2 := hide r2
  clear r1 r2 hn hn2 hl
  go_enter Tryz.func15, Tryz.ntmps15
  go_wp2_with fail
  go_loopw [7] (fun i wr => ∃ j : Nat, i = .int .i64 (j : Int) ∧ j ≤ n ∧ Hid (Below w.heap.size w wr)) (fun i _ => n - (intOf i).toNat)
  case atStart => exact ⟨0, rfl, Nat.zero_le _, hide (Below.refl _ _)⟩
  case round =>
    obtain ⟨j, rfl, hj, HB⟩ := hrel
    by_cases hlt : j < n
    · obtain ⟨x, hx⟩ : ∃ x, l1[j]? = some x := ⟨l1[j]'(by rw [(unhide HN).1]; exact hlt), List.getElem?_eq_getElem _⟩
      obtain ⟨y, hy⟩ : ∃ y, l2[j]? = some y := ⟨l2[j]'(by rw [(unhide HN).2]; exact hlt), List.getElem?_eq_getElem _⟩
      obtain ⟨g1, rfl, hr1⟩ : ∃ g, a1 = some ⟨g, 0, none⟩ ∧ RowAt w g c1 l1 := by
        rcases unhide HR1 with h | h
        · rw [h] at hx; simp at hx
        · exact h
      obtain ⟨g2, rfl, hr2⟩ : ∃ g, a2 = some ⟨g, 0, none⟩ ∧ RowAt w g c2 l2 := by
        rcases unhide HR2 with h | h
        · rw [h] at hy; simp at hy
        · exact h
      obtain ⟨e1, e2, e3, e4⟩ := ha j x y hx hy
      have hb := unhide HB
      obtain ⟨x0, x1, x2, x3⟩ := (hr1.later hb).cells j x hx
      obtain ⟨y0, y1, y2, y3⟩ := (hr2.later hb).cells j y hy
      have lt1 := (hr1.later hb).lt
      have lt2 := (hr2.later hb).lt
      rw [← e1] at y0
      rw [← e2] at y1
      rw [← e3] at y2
      clear hr1 hr2 hb hx hy e1 e2 e3 HR1 HR2 ha
      cases p with
      | true =>
        have e5 := e4 rfl
        rw [← e5] at y3
        clear e4 e5
        go_wp2_with fail
        go_region
        all_goals
          go_wp2_with fail
          go_roundw
          case rel => exact ⟨j + 1, by go_num, by omega, hide (by have hb := unhide HB; exact ((hb.alloc hb.size _).alloc (by simp; have := hb.size; omega) _).drew)⟩
          case measure => simp [intOf]; omega
      | false =>
        clear e4
        go_wp2_with fail
        go_region
        all_goals
          go_wp2_with fail
          go_roundw
          case rel => exact ⟨j + 1, by go_num, by omega, hide (by have hb := unhide HB; exact ((hb.alloc hb.size _).alloc (by simp; have := hb.size; omega) _).drew)⟩
          case measure => simp [intOf]; omega
    · have hb := unhide HB
      go_wp2_with fail
      go_ret
      exact ⟨rfl, hb⟩
end Go.Proofs.YtcdobniommnflaaGreatDoor

namespace Go.Proofs.YtcdobniommnflaaGreatDoor
open Go.RowKit

set_option maxRecDepth 100000 in
set_option maxHeartbeats 1000000 in
theorem fault_any (why a : Int) (w : World) :
    Calls Tryz.prog 42 #[.int .i64 why, .int .i64 a] w fun e w' => e = .returned (.agg #[.int .i64 why, .int .i64 a]) ∧ Below w.heap.size w w' := by
  go_enter Tryz.func42, Tryz.ntmps42
  go_wp2_with fail
  refine bodyPost_ret (v := .agg #[.int .i64 why, .int .i64 a]) (by simp [results, Tryz.results42, go_sem]) rfl ?_
  exact ⟨rfl, (Below.refl _ w).alloc (Nat.le_refl _) _⟩

/-- What the document's gap answers. -/
def gapV (k : Nat) : G → Int
  | .none => (k : Int)
  | .gap n => (k : Int) + (n : Int)
  | .never => -1
theorem ln_at {s : ByteArray} {k m : Nat} (h : m < s.size) (hd : ¬ bv s[m] = 10) (hh : k + lnLen (s.data.toList.drop k) = m + lnLen (s.data.toList.drop m)) :
    k + lnLen (s.data.toList.drop k) = (m + 1) + lnLen (s.data.toList.drop (m + 1)) := by
  rw [drop_at s m h] at hh
  have : lnLen (s[m] :: s.data.toList.drop (m + 1)) = lnLen (s.data.toList.drop (m + 1)) + 1 := by
    unfold lnLen
    rw [if_neg (fun e => hd (by rw [e]; rfl))]
    cases s.data.toList.drop (m + 1) <;> rfl
  omega
theorem ln_end {s : ByteArray} {k m : Nat} (h : ∀ hm : m < s.size, bv s[m] = 10) (hh : k + lnLen (s.data.toList.drop k) = m + lnLen (s.data.toList.drop m)) : k + lnLen (s.data.toList.drop k) = m := by
  by_cases hm : m < s.size
  · have e : s[m] = 10 := (bv_eq (k := 10) (by omega)).1 (h hm)
    rw [drop_at s m hm, e] at hh
    simp [lnLen] at hh
    exact hh
  · rw [drop_end s m (by omega)] at hh
    exact hh
theorem ce_at {s : ByteArray} {m : Nat} (h : m < s.size) (hp : pre [42, 47] (s.data.toList.drop m) = false) : cEnd (s.data.toList.drop m) = (cEnd (s.data.toList.drop (m + 1))).map (· + 1) := by
  rw [drop_at s m h] at hp ⊢
  rw [cEnd, if_neg (by rw [hp]; simp)]
theorem ce_hit {s : ByteArray} {m : Nat} (h : m < s.size) (hp : pre [42, 47] (s.data.toList.drop m) = true) : cEnd (s.data.toList.drop m) = some 0 := by
  rw [drop_at s m h] at hp ⊢
  rw [cEnd, if_pos hp]
/-- The comment's end, looked for from k on, up to m. -/
def CeAt (s : ByteArray) (k m : Nat) : Prop := k ≤ m ∧ m ≤ s.size ∧ cEnd (s.data.toList.drop k) = (cEnd (s.data.toList.drop m)).map (· + (m - k))
theorem CeAt.step {s : ByteArray} {k m : Nat} (h : CeAt s k m) (hm : m < s.size) (hp : pre [42, 47] (s.data.toList.drop m) = false) : CeAt s k (m + 1) := by
  obtain ⟨h1, h2, h3⟩ := h
  refine ⟨by omega, by omega, ?_⟩
  rw [h3, ce_at hm hp, Option.map_map]
  cases cEnd (s.data.toList.drop (m + 1)) with
  | none => rfl
  | some j => simp; omega

set_option maxHeartbeats 4000000 in
theorem rgap_any (s : ByteArray) (k : Nat) (hk : k < s.size) (hs : s.size ≤ 140737488355328) (w : World) :
    Calls Tryz.prog 43 #[.string s, .int .i64 (k : Int)] w fun e w' => e = .returned (.int .i64 (gapV k (gapAt (s.data.toList.drop k)))) ∧ w' = w := by
  cases hb : isB (s[k].toNat : Int) with
  | true =>
    have H := hide (show gapV k (gapAt (s.data.toList.drop k)) = (k : Int) + 1 by rw [gap_blank hk hb]; rfl)
    have hb' : (s[k].toNat : Int) = 32 ∨ (s[k].toNat : Int) = 9 ∨ (s[k].toNat : Int) = 10 ∨ (s[k].toNat : Int) = 13 := by
      simp only [isB, Bool.or_eq_true, decide_eq_true_eq] at hb; omega
    go_enter Tryz.func43, Tryz.ntmps43
    rcases hb' with e | e | e | e
    all_goals
      go_wp2_with fail
      go_ret
      exact ⟨ret_int (unhide H).symm, rfl⟩
  | false =>
    have hb' : ¬ (s[k].toNat : Int) = 32 ∧ ¬ (s[k].toNat : Int) = 9 ∧ ¬ (s[k].toNat : Int) = 10 ∧ ¬ (s[k].toNat : Int) = 13 := by
      simp only [isB, Bool.or_eq_false_iff, decide_eq_false_iff_not] at hb; omega
    obtain ⟨n1, n2, n3, n4⟩ := hb'
    have m1 : ((s[k].toNat : Int) == 32) = false := beq_eq_false_iff_ne.2 n1
    have m2 : ((s[k].toNat : Int) == 9) = false := beq_eq_false_iff_ne.2 n2
    have m3 : ((s[k].toNat : Int) == 10) = false := beq_eq_false_iff_ne.2 n3
    have m4 : ((s[k].toNat : Int) == 13) = false := beq_eq_false_iff_ne.2 n4
    clear n1 n2 n4
    cases hp : pre [47, 47] (s.data.toList.drop k) with
    | true =>
      have HP := hide hp
      have H := hide (show gapV k (gapAt (s.data.toList.drop k)) = (k : Int) + (lnLen (s.data.toList.drop k) : Int) by rw [gap_line hk hb hp]; rfl)
      clear hp
      go_enter Tryz.func43, Tryz.ntmps43
      go_wp2_with (go_at_call 78; refine (at_is s _ k ⟨#[47, 47]⟩ true rfl (unhide HP) (by omega) hs (by decide) _).mono ?_; rintro e w' ⟨rfl, rfl⟩)
      go_loop [1] (fun i => ∃ m : Nat, i = .int .i64 (m : Int) ∧ m ≤ s.size ∧ Hid (k + lnLen (s.data.toList.drop k) = m + lnLen (s.data.toList.drop m))) (fun i => s.size - (intOf i).toNat)
      case atStart => exact ⟨k, rfl, by omega, hide rfl⟩
      case round =>
        obtain ⟨m, rfl, hm, HH⟩ := hrel
        by_cases hlt : m < s.size
        · cases h10 : ((s[m].toNat : Int) != 10) with
          | true =>
            go_wp2_with fail
            go_round
            case rel => exact ⟨m + 1, by go_num, by omega, hide (ln_at hlt (bne_iff_ne.1 h10) (unhide HH))⟩
            case measure => simp [intOf]; omega
          | false =>
            go_wp2_with fail
            go_ret
            have e10 : (s[m].toNat : Int) = 10 := by simpa using h10
            exact ⟨ret_int (by rw [unhide H]; have := ln_end (fun _ => e10) (unhide HH); omega), rfl⟩
        · go_wp2_with fail
          go_ret
          exact ⟨ret_int (by rw [unhide H]; have := ln_end (fun h => absurd h hlt) (unhide HH); omega), rfl⟩
    | false =>
      cases hq : pre [47, 42] (s.data.toList.drop k) with
      | false =>
        have HP := hide hp
        have HQ := hide hq
        have H := hide (show gapV k (gapAt (s.data.toList.drop k)) = (k : Int) by rw [gap_not hk hb hp hq]; rfl)
        clear hp hq
        go_enter Tryz.func43, Tryz.ntmps43
        go_wp2_with fail
        refine (at_is s _ k ⟨#[47, 47]⟩ false rfl (unhide HP) (by omega) hs (by decide) _).mono ?_
        rintro e w' ⟨rfl, rfl⟩
        go_wp2_with fail
        refine (at_is s _ k ⟨#[47, 42]⟩ false rfl (unhide HQ) (by omega) hs (by decide) _).mono ?_
        rintro e w' ⟨rfl, rfl⟩
        go_wp2_with fail
        go_ret
        exact ⟨ret_int (unhide H).symm, rfl⟩
      | true =>
        have HP := hide hp
        have HQ := hide hq
        have h2 := pre_two hq
        have H := hide (show gapV k (gapAt (s.data.toList.drop k)) = match cEnd (s.data.toList.drop (k + 2)) with | some n => (k : Int) + ((n + 4 : Nat) : Int) | none => -1 by
          rw [gap_comm hk hb hp hq]; unfold cGap; cases cEnd (s.data.toList.drop (k + 2)) <;> rfl)
        clear hp hq
        go_enter Tryz.func43, Tryz.ntmps43
        go_wp2_with fail
        refine (at_is s _ k ⟨#[47, 47]⟩ false rfl (unhide HP) (by omega) hs (by decide) _).mono ?_
        rintro e w' ⟨rfl, rfl⟩
        go_wp2_with fail
        refine (at_is s _ k ⟨#[47, 42]⟩ true rfl (unhide HQ) (by omega) hs (by decide) _).mono ?_
        rintro e w' ⟨rfl, rfl⟩
        go_wp2_with fail
        go_loop [6] (fun i => ∃ m : Nat, i = .int .i64 (m : Int) ∧ Hid (CeAt s (k + 2) m)) (fun i => s.size - (intOf i).toNat)
        case atStart => exact ⟨k + 2, by go_num, hide ⟨Nat.le_refl _, h2, by rw [Nat.sub_self]; cases cEnd (s.data.toList.drop (k + 2)) <;> rfl⟩⟩
        case round =>
          obtain ⟨m, rfl, HH⟩ := hrel
          have hm := (unhide HH).2.1
          have hkm := (unhide HH).1
          by_cases hlt : m < s.size
          · cases hr : pre [42, 47] (s.data.toList.drop m) with
            | true =>
              have HR := hide hr
              clear hr
              go_wp2_with (go_at_call 78; refine (at_is s _ m ⟨#[42, 47]⟩ true rfl (unhide HR) (by omega) hs (by decide) _).mono ?_; rintro e w' ⟨rfl, rfl⟩)
              go_ret
              refine ⟨ret_int ?_, rfl⟩
              rw [unhide H, (unhide HH).2.2, ce_hit hlt (unhide HR), Option.map_some]
              show (m : Int) + 2 = (k : Int) + ((0 + (m - (k + 2)) + 4 : Nat) : Int)
              omega
            | false =>
              have HR := hide hr
              clear hr
              go_wp2_with (go_at_call 78; refine (at_is s _ m ⟨#[42, 47]⟩ false rfl (unhide HR) (by omega) hs (by decide) _).mono ?_; rintro e w' ⟨rfl, rfl⟩)
              go_round
              case rel => exact ⟨m + 1, by go_num, hide ((unhide HH).step hlt (unhide HR))⟩
              case measure => simp [intOf]; omega
          · go_wp2_with fail
            go_ret
            refine ⟨ret_int ?_, rfl⟩
            rw [unhide H, (unhide HH).2.2, drop_end s m (by omega)]
            rfl
end Go.Proofs.YtcdobniommnflaaGreatDoor
