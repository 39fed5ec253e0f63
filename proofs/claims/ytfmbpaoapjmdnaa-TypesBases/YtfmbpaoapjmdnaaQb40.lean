/- The document's reader by the tokens that are next: Parse. types: the two texts of alive are read. types: the laws' own probe answers true. -/
import Derived.Test.YtfmbpaoapjmdnaaQb37
import Derived.Test.YtfmbpaoapjmdnaaQb39
import Derived.Test.YtfmbpaoapjmdnaaQb38
set_option maxRecDepth 100000
set_option maxHeartbeats 32000000
namespace Go.Proofs.Ytfmbpaoapjmdnaa
section
open Go.RowKit Go.Maps
def RpX (w : World) (its : List It) (en : Ending) (w' : World) : Prop := ∃ p0 m0 o0 p1 m1 o1 p2 m2 o2 p3 m3 o3 p4 m4 o4 p, en = .returned (.tuple #[.agg #[.slice p0 m0 o0, .slice p1 m1 o1, .slice p2 m2 o2, .slice p3 m3 o3, .slice p4 m4 o4], .agg #[.int .i64 0, .int .i64 0]]) ∧ Below w.heap.size w w' ∧ PgS (fun b => w.heap.size ≤ b) w' [.slice p0 m0 o0, .slice p1 m1 o1, .slice p2 m2 o2, .slice p3 m3 o3, .slice p4 m4 o4] p ∧ eqPg p (its.foldl addI .none) = true
theorem Qjh (s : ByteArray) (hs : s.size ≤ 281474976710656) {toks K : List Tok} {its : List It} {j : Nat} (hq : lexP s.data.toList = .ok toks) (hK : toks.map zk = K.map zk) (hY : ∀ rb g cap l, YIs rb g cap l 0 j [⟨0, [], 0, 0⟩] its 0 K) (w : World) : Calls Try.prog 6 #[.string s] w fun en w' => RpX w its en w' := by
 obtain ⟨w2, hw2⟩ : ∃ w2, w2 = (w.alloc pgZ).alloc ftZ := ⟨_, rfl⟩
 have b2 : Below w.heap.size w w2 := by rw [hw2]; exact ((Below.refl _ w).alloc (Nat.le_refl _) _).alloc (by simp) _
 have s2 : w2.heap.size = w.heap.size + 2 := by rw [hw2]; simp
 have p2 : w2.heap[w.heap.size]? = some pgZ := by rw [hw2, Below.heap_alloc _ _ _ (by simp)]; exact heap_alloc_new w _
 have f2 : w2.heap[w.heap.size + 1]? = some ftZ := by
  rw [hw2]
  have := heap_alloc_new (w.alloc pgZ) ftZ
  simpa using this
 have htk := Qfy s hs w2
 have HQ := hide (Ya hY hK)
 clear hY hK
 have HW2 : Hid (w2 = (w.alloc (.cells #[.slice none 0 0, .slice none 0 0, .slice none 0 0, .slice none 0 0, .slice none 0 0] 28)).alloc (.cells #[.int .i64 0, .int .i64 0] 31)) := hw2
 have K2 := hide (Ya b2 (Ya p2 (Ya f2 s2)))
 obtain ⟨PO, hPO⟩ : ∃ PO : Ending → World → Prop, PO = fun en w' => RpX w its en w' := ⟨_, rfl⟩
 rw [← hPO]
 have HPO := hide hPO
 have hri := Qnb s.data.toList
 have hsz : s.data.toList.length = s.size := (Qct s).symm
 clear b2 s2 p2 f2 hw2 hPO
 rw [hq] at htk hri
 obtain ⟨g1, g2, g3⟩ := Qr hq
 have g4 := Qna hq
 have hat : ∀ t ∈ toks, t.at_ ≤ 65536 := fun t ht => by have := Ris.at hri t ht; omega
 rw [hsz] at g1 g2 g4
 have HT := hide (Ya hat (Ya g1 (Ya g2 g4)))
 clear hq hri hsz hat g2 g3 g4
 go_enter Try.func6, Try.ntmps6
 go_wp2_with fail
 rw [← Qa HW2]
 refine htk.mono ?_
 clear htk HW2
 rintro en w3 ⟨v, rfl, hown, b3⟩
 obtain ⟨b2, p2, f2, s2⟩ := Qa K2
 have hs3 := b3.size
 obtain ⟨hat, _, g2, g4⟩ := Qa HT
 obtain ⟨w4, hw4⟩ : ∃ w4, w4 = w3.alloc ftZ := ⟨_, rfl⟩
 have n4 : w4.heap[w3.heap.size]? = some ftZ := by rw [hw4]; exact heap_alloc_new w3 _
 have b4 : Below w2.heap.size w2 w4 := by rw [hw4]; exact b3.alloc b3.size _
 have s4 : w4.heap.size = w3.heap.size + 1 := by rw [hw4]; simp
 have ho4 : w4.ownsRow w2.heap.size 54 4 v toks.length (tokCells toks) := by rw [hw4]; exact World.ownsRow.alloc hown _
 obtain ⟨v1, w5, v2, w7, r1, b5, r2, b7, ⟨v1a, v1n, v1c, e1⟩, tg, tc, e2, hrow, htg⟩ := Qks ho4 (by omega) ⟨0, [], 0, s.size⟩
 obtain ⟨l, hl⟩ : ∃ l, toks ++ [(⟨0, [], 0, s.size⟩ : Tok)] = l := ⟨_, rfl⟩
 rw [hl] at hrow e2
 obtain ⟨tn, htn⟩ : ∃ tn, l.length = tn := ⟨_, rfl⟩
 have hln : tn = toks.length + 1 := by rw [← htn, ← hl]; simp
 rw [htn] at e2
 subst e1 e2
 obtain ⟨rb, hrb⟩ : ∃ rb, w7.heap.size = rb := ⟨_, rfl⟩
 obtain ⟨w8, hw8⟩ : ∃ w8, w8 = w7.alloc (.cells #[.slice (some ⟨tg, 0, none⟩) tn tc, .int .i64 0, .int .i64 0, .int .i64 0, .int .i64 0, .int .i64 0] 56) := ⟨_, rfl⟩
 have b8 : Below w7.heap.size w7 w8 := by rw [hw8]; exact (Below.refl _ w7).alloc (Nat.le_refl _) _
 have n8 : w8.heap[rb]? = some (.cells #[.slice (some ⟨tg, 0, none⟩) tn tc, .int .i64 0, .int .i64 0, .int .i64 0, .int .i64 0, .int .i64 0] 56 (0, 0)) := by rw [hw8, ← hrb]; exact heap_alloc_new w7 _
 have hR : Rr rb tg tc l w8 0 0 0 0 0 := by
  refine ⟨by rw [htn]; exact n8, hrow.later b8, by have := hrow.lt; omega, by omega, by omega, fun t ht => ?_, fun t ht => ?_, fun _ => rfl, by omega, by omega, fun t ht => ?_⟩
  ·
   rw [← hl] at ht
   rcases List.mem_append.1 ht with h | h
   · exact hat t h
   · simp only [List.mem_singleton] at h; subst h; exact g1
  ·
   rw [htn, hln, ← hl, Nat.add_sub_cancel, List.getElem?_append_right (Nat.le_refl _), Nat.sub_self] at ht
   cases ht; rfl
  rw [← hl] at ht
  rcases List.mem_append.1 ht with h | h
  · have := g4 t h; omega
  · simp only [List.mem_singleton] at h; subst h; exact Nat.zero_le _
 have hs7 := b7.size
 have hs8 := b8.size
 have bw8 : Below w2.heap.size w2 w8 := (b4.trans (b7.mono (by omega))).trans (b8.mono (by omega))
 have p8 := (bw8.block _ (Qab p2)).trans p2
 have f8 := (bw8.block _ (Qab f2)).trans f2
 have B8 : Below w.heap.size w w8 := b2.trans (bw8.mono (by omega))
 have hnx : Nxt l 0 (K ++ [⟨0, [], 0, 0⟩]) := by
  unfold Nxt
  rw [List.drop_zero, ← hl, List.map_append, List.map_append, (Qa HQ).2]
  rfl
 have hpr := Qqm (by omega) ((Qa HQ).1 rb tg tc l) ⟨_, _, rfl, .inl rfl⟩ w8 0 hR hnx
 have c0 : w4.cell? ⟨w3.heap.size, 0, none⟩ = some (.int .i64 0) := by rw [Qaf n4]; rfl
 have c1 : w4.cell? ⟨w3.heap.size, 1, none⟩ = some (.int .i64 0) := by rw [Qaf n4]; rfl
 have K8 := hide (Ya B8 (Ya p8 (Ya f8 (show w.heap.size + 2 ≤ rb ∧ rb < w8.heap.size ∧ w.heap.size + 2 ≤ tg by have := Qab n8; omega))))
 have HL := hide htn
 have HW4 : Hid (w4 = w3.alloc (.cells #[.int .i64 0, .int .i64 0] 31)) := hw4
 have HW8 := hide (Ya hw8 hrb)
 have r2' : (Builtin.append_ #[50, 50] 50 #[.slice v1a v1n v1c, .slice (some ⟨w5.heap.size, 0, none⟩) 1 1]).run Try.prog (w5.alloc (.cells #[.int .i64 0, .string ⟨#[]⟩, .int .i64 0, .int .i64 (s.size : Int)] 54)) = .ok (.slice (some ⟨tg, 0, none⟩) tn tc) w7 := r2
 have HR1 := hide r1
 have HR2 := hide r2'
 have hsl : s.size ≤ 65536 := g1
 clear hown b3 b2 p2 f2 s2 hs3 hat g2 g4 hw4 n4 b4 s4 ho4 r1 b5 r2 r2' b7 hrow htg hl htn hln hrb hw8 b8 n8 hR hnx hs7 hs8 bw8 p8 f8 B8 K2 g1 HT
 simp only [Out.why, Out.fa]
 go_upto_region 2 with fail
 rw [← Qa HW4]
 clear HW4
 go_wp2_with (at_builtin; first
  | (refine Qaj _ rfl _ _ 50 rfl _ _ rfl rfl _ _ (Qa HR1) ?_; clear HR1)
  | (refine Qaj _ rfl _ _ 50 rfl _ _ rfl rfl _ _ (Qa HR2) ?_; clear HR2))
 rw [← (Qa HW8).1, (Qa HW8).2]
 clear HW8 c0 c1
 refine hpr.mono ?_
 clear hpr
 rintro en w9 ⟨_, a9, rfl, ⟨pg, ⟨p0, m0, o0, p1, m1, o1, p2, m2, o2, p3, m3, o3, p4, m4, o4, rfl, hpg⟩, heq⟩, h9, k9, n9⟩
 obtain ⟨B8, p8, f8, g1, g2, g3⟩ := Qa K8
 obtain ⟨pb, hpb⟩ : ∃ pb, w9.heap.size = pb := ⟨_, rfl⟩
 obtain ⟨w10, hw10⟩ : ∃ w10, w10 = w9.alloc (.cells #[.slice p0 m0 o0, .slice p1 m1 o1, .slice p2 m2 o2, .slice p3 m3 o3, .slice p4 m4 o4] 28) := ⟨_, rfl⟩
 have b10 : Below w9.heap.size w9 w10 := by rw [hw10]; exact (Below.refl _ w9).alloc (Nat.le_refl _) _
 have n10 : w10.heap[pb]? = some (.cells #[.slice p0 m0 o0, .slice p1 m1 o1, .slice p2 m2 o2, .slice p3 m3 o3, .slice p4 m4 o4] 28 (0, 0)) := by rw [hw10, ← hpb]; exact heap_alloc_new w9 _
 have hs9 := k9.size
 have k10 : Kp rb w8 w10 := k9.trans (Kp.of_below b10)
 have h10 := h9.later b10
 have hpg10 : PgS (fun b => w.heap.size + 2 ≤ b ∧ b ≠ rb) w10 [.slice p0 m0 o0, .slice p1 m1 o1, .slice p2 m2 o2, .slice p3 m3 o3, .slice p4 m4 o4] pg := Qar.mono _ _ _ _ _ (Qar.same _ _ w10 _ _ hpg b10.size (fun b _ hl => b10.block b hl)) (fun b _ hb => by have hb' : w8.heap.size ≤ b := hb; exact ⟨by omega, by omega⟩)
 obtain ⟨t, ht, hz9, _⟩ := n9.at
 have gt : (t.kind != 0) = false := by
  simp only [zk, Prod.mk.injEq] at hz9
  rw [hz9.1]; rfl
 have HEQ := hide heq
 have hnw := Qak h10 ht
 unfold tkA at hnw
 have K10 := hide (Ya (B8.trans (k10.bel (by omega) B8.size)) (Ya (k10.keep p8 (by omega)) (Ya (k10.keep f8 (by omega)) (Ya g1 (Ya g2 (Ya h10 (Ya n10 (Ya (show rb < pb by omega) hpg10))))))))
 have HW10 := hide (Ya hw10 hpb)
 clear hpg hz9 n9 heq h9 k9 B8 p8 f8 g1 g2 g3 hpb hw10 b10 n10 hs9 k10 h10 hpg10 ht K8
 go_wp2_with fail
 rw [← (Qa HW10).1, (Qa HW10).2]
 clear HW10
 refine hnw.mono ?_
 clear hnw
 rintro en w11 ⟨rfl, b11⟩
 have H11 := hide (show Below w.heap.size w w11 ∧ w11.heap[w.heap.size]? = some pgZ ∧ w11.heap[w.heap.size + 1]? = some ftZ ∧ w.heap.size + 2 ≤ rb ∧ Rr rb tg tc l w11 a9 0 j 0 0 ∧ w11.heap[pb]? = some (.cells #[.slice p0 m0 o0, .slice p1 m1 o1, .slice p2 m2 o2, .slice p3 m3 o3, .slice p4 m4 o4] 28 (0, 0)) ∧ rb < pb ∧ PgS (fun b => w.heap.size + 2 ≤ b ∧ b ≠ rb) w11 [.slice p0 m0 o0, .slice p1 m1 o1, .slice p2 m2 o2, .slice p3 m3 o3, .slice p4 m4 o4] pg by
  obtain ⟨B8, p8, f8, g1, g2, h10, n10, hpb, hpg10⟩ := Qa K10
  exact ⟨B8.trans (b11.mono B8.size), (b11.block _ (Qab p8)).trans p8, (b11.block _ (Qab f8)).trans f8, g1, h10.later b11, (b11.block _ (Qab n10)).trans n10, hpb, Qar.same _ _ _ _ _ hpg10 b11.size (fun b _ hl => b11.block b hl)⟩)
 clear b11 K10
 go_wp2_with fail
 rename_i hK
 refine hK _ _ ?_
 clear hK
 have hwl := Qao (Qa H11).2.2.2.2.1
 rw [decide_eq_true rfl] at hwl
 go_wp2_with fail
 refine hwl.mono ?_
 clear hwl
 rintro en wq ⟨rfl, rfl⟩
 obtain ⟨B0, P0, F0, hrb, _, bp, hpb, hpg⟩ := Qa H11
 obtain ⟨v0, v1, v2, v3, v4, vf⟩ := cl5 bp
 obtain ⟨W5, hW5⟩ : ∃ W5, W5 = (((((wq.setCell ⟨w.heap.size, 0, none⟩ (.slice p0 m0 o0)).setCell ⟨w.heap.size, 1, none⟩ (.slice p1 m1 o1)).setCell ⟨w.heap.size, 2, none⟩ (.slice p2 m2 o2)).setCell ⟨w.heap.size, 3, none⟩ (.slice p3 m3 o3)).setCell ⟨w.heap.size, 4, none⟩ (.slice p4 m4 o4)) := ⟨_, rfl⟩
 have oW5 : ∀ k, k ≠ w.heap.size → W5.heap[k]? = wq.heap[k]? := fun k hk => by rw [hW5, hpS hk, hpS hk, hpS hk, hpS hk, hpS hk]
 have P5' : W5.heap[w.heap.size]? = some (.cells #[.slice p0 m0 o0, .slice p1 m1 o1, .slice p2 m2 o2, .slice p3 m3 o3, .slice p4 m4 o4] 28 (0, 0)) := by rw [hW5]; exact (Qah (Qah (Qah (Qah (Qah P0 0 _) 1 _) 2 _) 3 _) 4 _).trans rfl
 have F5 := (oW5 (w.heap.size + 1) (by omega)).trans F0
 have B5 : Below w.heap.size w W5 := by rw [hW5]; exact (((((B0.setCell (p := ⟨w.heap.size, 0, none⟩) (Nat.le_refl _) _).setCell (p := ⟨w.heap.size, 1, none⟩) (Nat.le_refl _) _).setCell (p := ⟨w.heap.size, 2, none⟩) (Nat.le_refl _) _).setCell (p := ⟨w.heap.size, 3, none⟩) (Nat.le_refl _) _).setCell (p := ⟨w.heap.size, 4, none⟩) (Nat.le_refl _) _)
 have sW5 : W5.heap.size = wq.heap.size := by rw [hW5]; simp
 obtain ⟨y0, y1, yf⟩ := cl2 F5
 obtain ⟨W7, hW7⟩ : ∃ W7, W7 = ((W5.setCell ⟨w.heap.size + 1, 0, none⟩ (.int .i64 0)).setCell ⟨w.heap.size + 1, 1, none⟩ (.int .i64 0)) := ⟨_, rfl⟩
 have oW7 : ∀ k, k ≠ w.heap.size + 1 → W7.heap[k]? = W5.heap[k]? := fun k hk => by rw [hW7, hpS hk, hpS hk]
 have F7 : W7.heap[w.heap.size + 1]? = some (.cells #[.int .i64 0, .int .i64 0] 31 (0, 0)) := by rw [hW7]; exact (Qah (Qah F5 0 _) 1 _).trans rfl
 have P7 := (oW7 w.heap.size (by omega)).trans P5'
 have B7 : Below w.heap.size w W7 := by rw [hW7]; exact (B5.setCell (p := ⟨w.heap.size + 1, 0, none⟩) (by show w.heap.size ≤ w.heap.size + 1; omega) _).setCell (p := ⟨w.heap.size + 1, 1, none⟩) (by show w.heap.size ≤ w.heap.size + 1; omega) _
 have sW7 : W7.heap.size = W5.heap.size := by rw [hW7]; simp
 obtain ⟨x0, x1, x2, x3, x4, xf⟩ := cl5 P0
 have hpg7 : PgS (fun b => w.heap.size ≤ b) W7 [.slice p0 m0 o0, .slice p1 m1 o1, .slice p2 m2 o2, .slice p3 m3 o3, .slice p4 m4 o4] pg := Qar.mono _ _ _ _ _ (Qar.same _ _ W7 _ _ hpg (by omega) (fun b hb _ => (oW7 b (by have := hb.1; omega)).trans (oW5 b (by have := hb.1; omega)))) (fun b _ hb => by have := hb.1; omega)
 have HU := hide (Ya P7 (Ya F7 (Ya B7 hpg7)))
 have HW7 := hide hW7
 clear B0 P0 F0 hrb bp hpb hpg oW5 P5' F5 B5 sW5 hW7 oW7 F7 P7 B7 sW7 hpg7 H11
 subst hW5
 go_wp2_with fail
 rw [← Qa HW7]
 obtain ⟨p9, f9', b09, hpg7⟩ := Qa HU
 obtain ⟨u0, u1, u2, u3, u4, uf⟩ := cl5 p9
 obtain ⟨t0, t1, tf⟩ := cl2 f9'
 clear x0 x1 x2 x3 x4 xf y0 y1 yf HW7 HU v0 v1 v2 v3 v4 vf
 go_wp2_with fail
 refine bodyPost_ret (v := .tuple #[.agg #[.slice p0 m0 o0, .slice p1 m1 o1, .slice p2 m2 o2, .slice p3 m3 o3, .slice p4 m4 o4], .agg #[.int .i64 0, .int .i64 0]]) (by simp [results, Try.results6, go_sem, u0, u1, u2, u3, u4, t0, t1]) rfl ?_
 rw [Qa HPO]
 exact ⟨_, _, _, _, _, _, _, _, _, _, _, _, _, _, _, pg, rfl, b09, hpg7, Qa HEQ⟩
end
section
open Go.RowKit Go.Maps
def kvX (x : Ex) : List Tok := [nmR x.txt]
def kvL (y : Lt) : List Tok := nmR y.atom.rel :: sgQ [40] :: (joinQ (y.atom.args.map kvX) ++ [sgQ [41]])
section
variable {rb g cap d i : Nat} {l : List Tok}
theorem vx_ok {s : Txt} (hd : d < 31) (hq : wordP s = true) (hs : s ≠ [95]) : ∀ x ∈ [vaX s 0], YE 116 rb g cap l d Fole (kvX x) x ∧ ∃ t0 ks, kvX x = t0 :: ks ∧ isSg t0 [41] = false := fun x hx => by
 rw [List.mem_singleton.1 hx]
 exact ⟨Qoz hd hq hs, _, _, rfl, Qdx _ _⟩
theorem Qpb {r s : Txt} (hd : d < 31) (hq : wordP s = true) (hs : s ≠ [95]) : YL rb g cap l d (kvL (vaL r s 0 0 0 0 0)) (vaL r s 0 0 0 0 0) := fun _ _ _ r' h hA _ =>
 Qpc h (vx_ok hd hq hs) (by show 1 ≤ 8; decide) (rest := r') hA
theorem Qp {n s : Txt} {r : List Tok} (hw : wordP n = true) (hs : n ≠ [95]) : YI rb g cap l d i i [sgQ [46, 116, 121, 112, 101], nmR n, sgQ [60, 58], nmR s] r (.ty ⟨n, s, [], 0⟩) :=
 ⟨rfl, _, rfl, fun _ _ at0 h hA => Qpa h at0 hw hs (rest := r) hA⟩
theorem Qid {n s t : Txt} {r : List Tok} (hw : wordP n = true) (hs : n ≠ [95]) (hw2 : wordP s = true) (hs2 : s ≠ [95]) (hF : Fol2 r) : YI rb g cap l d i i [sgQ [46, 100, 101, 99, 108], nmR n, sgQ [40], nmR s, sgQ [58], nmR t, sgQ [41]] r (.dc ⟨n, [⟨s, t⟩], false, false, 0⟩) :=
 ⟨rfl, _, rfl, fun _ _ at0 h hA => Qjz h at0 hw hs (fs := [⟨s, t⟩]) (fun f hf => by rw [List.mem_singleton.1 hf]; exact ⟨hw2, hs2⟩) (by show 1 ≤ 8; decide) (rest := r) hA hF⟩
theorem Qri {r : List Tok} (hd : d < 31) : YI rb g cap l d i i [nmR tQ, sgQ [40], nmR tX, sgQ [41], sgQ [58, 45], nmR tE, sgQ [40], nmR tX, sgQ [41], sgQ [44], nmR tQ, sgQ [40], nmR tX, sgQ [41], sgQ [46]] r (.cl (caQ plZ)) :=
 ⟨rfl, ⟨_, _, rfl⟩, fun _ _ h hA => Qgh h (vx_ok hd (by decide) (by decide)) (by decide) (KL := kvL) (ls := [vaL tE tX 0 0 0 0 0, vaL tQ tX 0 0 0 0 0]) (fun x hx => by
  simp only [List.mem_cons, List.not_mem_nil, or_false] at hx
  rcases hx with rfl | rfl
  · exact ⟨Qpb hd (by decide) (by decide), by decide⟩
  · exact ⟨Qpb hd (by decide) (by decide), by decide⟩) (by simp) (by decide) (rest := r) hA⟩
theorem yi_clE {r : List Tok} (hd : d < 31) : YI rb g cap l d i i [nmR tE, sgQ [40], nmR tX, sgQ [41], sgQ [58, 45], nmR tQ, sgQ [40], nmR tX, sgQ [41], sgQ [46]] r (.cl (caE plZ)) :=
 ⟨rfl, ⟨_, _, rfl⟩, fun _ _ h hA => Qgh h (vx_ok hd (by decide) (by decide)) (by decide) (KL := kvL) (ls := [vaL tQ tX 0 0 0 0 0]) (fun x hx => by
  rw [List.mem_singleton.1 hx]
  exact ⟨Qpb hd (by decide) (by decide), by decide⟩) (by simp) (by decide) (rest := r) hA⟩
end
def kHd : List Tok := [sgQ [46, 116, 121, 112, 101], nmR tA, sgQ [60, 58], nmR tNum] ++ ([sgQ [46, 100, 101, 99, 108], nmR tE, sgQ [40], nmR tX, sgQ [58], nmR tA, sgQ [41]] ++ ([sgQ [46, 100, 101, 99, 108], nmR tQ, sgQ [40], nmR tX, sgQ [58], nmR tNum, sgQ [41]] ++ ([nmR tQ, sgQ [40], nmR tX, sgQ [41], sgQ [58, 45], nmR tE, sgQ [40], nmR tX, sgQ [41], sgQ [44], nmR tQ, sgQ [40], nmR tX, sgQ [41], sgQ [46]] ++ [])))
def kHe : List Tok := [sgQ [46, 116, 121, 112, 101], nmR tA, sgQ [60, 58], nmR tNum] ++ ([sgQ [46, 100, 101, 99, 108], nmR tE, sgQ [40], nmR tX, sgQ [58], nmR tA, sgQ [41]] ++ ([sgQ [46, 100, 101, 99, 108], nmR tQ, sgQ [40], nmR tX, sgQ [58], nmR tNum, sgQ [41]] ++ ([nmR tQ, sgQ [40], nmR tX, sgQ [41], sgQ [58, 45], nmR tE, sgQ [40], nmR tX, sgQ [41], sgQ [44], nmR tQ, sgQ [40], nmR tX, sgQ [41], sgQ [46]] ++ ([nmR tE, sgQ [40], nmR tX, sgQ [41], sgQ [58, 45], nmR tQ, sgQ [40], nmR tX, sgQ [41], sgQ [46]] ++ []))))
def its1 : List It := [.ty (ty1 0), .dc (dcE 0), .dc (dcQ 0), .cl (caQ plZ)]
def its2 : List It := [.ty (ty1 0), .dc (dcE 0), .dc (dcQ 0), .cl (caQ plZ), .cl (caE plZ)]
theorem Qqy {s : Txt} {r : List Tok} : Fol2 (sgQ s :: r) := ⟨_, _, rfl, fun h => absurd h (by simp [sgQ])⟩
theorem yis_1 (rb g cap : Nat) (l : List Tok) : YIs rb g cap l 0 4 [⟨0, [], 0, 0⟩] its1 0 kHd :=
 ⟨_, _, 1, rfl, by decide, Qp (by decide) (by decide), _, _, 2, rfl, by decide, Qid (by decide) (by decide) (by decide) (by decide) Qqy, _, _, 3, rfl, by decide, Qid (by decide) (by decide) (by decide) (by decide) ⟨_, _, rfl, fun _ => by decide⟩, _, _, 4, rfl, by decide, Qri (by decide), rfl, rfl⟩
theorem yis_2 (rb g cap : Nat) (l : List Tok) : YIs rb g cap l 0 5 [⟨0, [], 0, 0⟩] its2 0 kHe :=
 ⟨_, _, 1, rfl, by decide, Qp (by decide) (by decide), _, _, 2, rfl, by decide, Qid (by decide) (by decide) (by decide) (by decide) Qqy, _, _, 3, rfl, by decide, Qid (by decide) (by decide) (by decide) (by decide) ⟨_, _, rfl, fun _ => by decide⟩, _, _, 4, rfl, by decide, Qri (by decide), _, _, 5, rfl, by decide, yi_clE (by decide), rfl, rfl⟩
def sm1 : ByteArray := ⟨([46, 116, 121, 112, 101, 32, 65, 32, 60, 58, 32, 110, 117, 109, 98, 101, 114, 32, 46, 100, 101, 99, 108, 32, 101, 40, 120, 58, 32, 65, 41, 32, 46, 100, 101].append [99, 108, 32, 113, 40, 120, 58, 32, 110, 117, 109, 98, 101, 114, 41, 32, 113, 40, 120, 41, 32, 58, 45, 32, 101, 40, 120, 41, 44, 32, 113, 40, 120, 41, 46]).toArray⟩
def sm2 : ByteArray := ⟨([46, 116, 121, 112, 101, 32, 65, 32, 60, 58, 32, 110, 117, 109, 98, 101, 114, 32, 46, 100, 101, 99, 108, 32, 101, 40, 120, 58, 32, 65, 41, 32, 46, 100, 101, 99, 108, 32, 113, 40, 120, 58].append [32, 110, 117, 109, 98, 101, 114, 41, 32, 113, 40, 120, 41, 32, 58, 45, 32, 101, 40, 120, 41, 44, 32, 113, 40, 120, 41, 46, 32, 101, 40, 120, 41, 32, 58, 45, 32, 113, 40, 120, 41, 46]).toArray⟩
def tk1 : List Tok := (lexP sm1.data.toList).toks
def tk2 : List Tok := (lexP sm2.data.toList).toks
theorem lex_1 : lexP sm1.data.toList = .ok tk1 := by kernel_rfl
theorem lex_2 : lexP sm2.data.toList = .ok tk2 := by kernel_rfl
theorem tok_1 : tk1.map zk = kHd.map zk := by kernel_rfl
theorem tok_2 : tk2.map zk = kHe.map zk := by kernel_rfl
def RpY (w : World) (R : Pg → Prop) (en : Ending) (w' : World) : Prop := ∃ p0 m0 o0 p1 m1 o1 p2 m2 o2 p3 m3 o3 p4 m4 o4 p, en = .returned (.tuple #[.agg #[.slice p0 m0 o0, .slice p1 m1 o1, .slice p2 m2 o2, .slice p3 m3 o3, .slice p4 m4 o4], .agg #[.int .i64 0, .int .i64 0]]) ∧ Below w.heap.size w w' ∧ PgS (fun b => w.heap.size ≤ b) w' [.slice p0 m0 o0, .slice p1 m1 o1, .slice p2 m2 o2, .slice p3 m3 o3, .slice p4 m4 o4] p ∧ R p
theorem RpX.to {w : World} {its : List It} {en : Ending} {w' : World} {R : Pg → Prop} (h : RpX w its en w') (hR : ∀ p, eqPg p (its.foldl addI .none) = true → R p) : RpY w R en w' := by
 obtain ⟨p0, m0, o0, p1, m1, o1, p2, m2, o2, p3, m3, o3, p4, m4, o4, p, h1, h2, h3, h4⟩ := h
 exact ⟨p0, m0, o0, p1, m1, o1, p2, m2, o2, p3, m3, o3, p4, m4, o4, p, h1, h2, h3, hR p h4⟩
theorem parse_1 (w : World) : Calls Try.prog 6 #[.string sm1] w fun en w' => RpY w (fun p => ∃ a b c o, p = pg1 a b c o) en w' :=
 (Qjh sm1 (by decide) lex_1 tok_1 yis_1 w).mono fun en w' h => h.to (fun p hp => eqPg_1 hp)
theorem parse_2 (w : World) : Calls Try.prog 6 #[.string sm2] w fun en w' => RpY w (fun p => ∃ a b c o u, p = pg2 a b c o u) en w' :=
 (Qjh sm2 (by decide) lex_2 tok_2 yis_2 w).mono fun en w' h => h.to (fun p hp => eqPg_2 hp)
end
section
open Go.RowKit Go.Maps
theorem mem_1 {S : Nat → Prop} {w : World} {a0 a1 a2 a3 a4 : Option Addr} {n0 q0 n1 q1 n2 q2 n3 q3 n4 q4 : Nat} {a b c : Int} {o : Pl} (hP : PgS S w [.slice a0 n0 q0, .slice a1 n1 q1, .slice a2 n2 q2, .slice a3 n3 q3, .slice a4 n4 q4] (pg1 a b c o)) : ∃ cb aa an ac ba bn bc, a4 = some ⟨cb, 0, none⟩ ∧ n4 = 1 ∧ cb < w.heap.size ∧ (∀ q v, ([str tQ, .slice aa an ac, .int .i64 o.b, .slice ba bn bc, .int .i64 o.m] : List Value)[q]? = some v → w.cell? ⟨cb, q, none⟩ = some v) ∧ LsAt PE 5 S w (.slice aa an ac) (caQ o).head.args ∧ LsAt PLt 16 S w (.slice ba bn bc) (caQ o).body := by
 obtain ⟨v0, v1, v2, v3, v4, ev, h0, h1, h2, h3, h4⟩ := hP.cells
 obtain ⟨rfl, rfl, rfl, rfl, rfl⟩ := list5 ev
 obtain ⟨cb, cap, cs, e1, hb, _, hl, hq, hc⟩ := h4.elem (j := 0) rfl
 obtain ⟨aa, an, ac, ba, bn, bc, rfl, hA, hB⟩ := hq
 simp only [Value.slice.injEq] at e1
 exact ⟨cb, aa, an, ac, ba, bn, bc, e1.1, e1.2.1, hb, fun q v hv => by simpa using hc q v hv, hA, hB⟩
theorem mem_2 {S : Nat → Prop} {w : World} {a0 a1 a2 a3 a4 : Option Addr} {n0 q0 n1 q1 n2 q2 n3 q3 n4 q4 : Nat} {a b c : Int} {o u : Pl} (hP : PgS S w [.slice a0 n0 q0, .slice a1 n1 q1, .slice a2 n2 q2, .slice a3 n3 q3, .slice a4 n4 q4] (pg2 a b c o u)) : n2 = 0 ∧ n3 = 0 := by
 obtain ⟨v0, v1, v2, v3, v4, ev, h0, h1, h2, h3, h4⟩ := hP.cells
 obtain ⟨rfl, rfl, rfl, rfl, rfl⟩ := list5 ev
 obtain ⟨_, _, _, e2, _⟩ := h2
 obtain ⟨_, _, _, e3, _⟩ := h3
 simp only [Value.slice.injEq] at e2 e3
 exact ⟨e2.2.1, e3.2.1⟩
theorem row_1 {w : World} {b : Nat} {sl : Value} (h : w.ownsRow b 103 2 sl 1 (fdCells [⟨tX, tA⟩])) : ∃ g cap, sl = .slice (some ⟨g, 0, none⟩) 1 cap ∧ b ≤ g ∧ g < w.heap.size ∧ w.cell? ⟨g, 0, none⟩ = some (str tX) ∧ w.cell? ⟨g, 1, none⟩ = some (str tA) := by
 rcases h.2 with ⟨_, e⟩ | ⟨g, cap, cur, e1, e2, e3, e4, e5, e6, e7⟩
 · cases e
 refine ⟨g, cap, e1, e2, Qab e3, ?_, ?_⟩
 ·
  rw [Qaf e3]
  have h1 : (fdCells [⟨tX, tA⟩])[0]? = some (str tX) := rfl
  rw [← e7, List.getElem?_take_of_lt (by omega)] at h1
  simpa using h1
 rw [Qaf e3]
 have h1 : (fdCells [⟨tX, tA⟩])[1]? = some (str tA) := rfl
 rw [← e7, List.getElem?_take_of_lt (by omega)] at h1
 simpa using h1
theorem Qji (w : World) : Calls Try.prog 14 #[] w fun e w' => e = .returned (.bool true) ∧ Below w.heap.size w w' := by
 have hp1 := parse_1 w
 have hp2 := hide (fun W => parse_2 W)
 unfold sm1 at hp1
 unfold sm2 at hp2
 go_enter Try.func14, Try.ntmps14
 go_wp2_with fail
 refine hp1.mono ?_
 clear hp1
 rintro e v1 ⟨x0a, x0n, x0c, x1a, x1n, x1c, x2a, x2n, x2c, x3a, x3n, x3c, x4a, x4n, x4c, p, rfl, b1, hR1, a, b, c, o, rfl⟩
 have hR1' := Qar.mono _ (fun q => q < v1.heap.size) _ _ _ hR1 (fun q hl _ => hl)
 obtain ⟨cb, aa, an, ac, ba, bn, bc, rfl, rfl, hcb, hcc, hA, hB⟩ := mem_1 hR1'
 obtain ⟨W1, hW1⟩ : ∃ W1, W1 = (v1.alloc (.cells #[.slice x0a x0n x0c, .slice x1a x1n x1c, .slice x2a x2n x2c, .slice x3a x3n x3c, .slice (some ⟨cb, 0, none⟩) 1 x4c] 28)).alloc (.cells #[.int .i64 0, .int .i64 0] 31) := ⟨_, rfl⟩
 have c1 : Below v1.heap.size v1 W1 := by rw [hW1]; exact ((Below.refl _ v1).alloc (Nat.le_refl _) _).alloc (by simp) _
 have p1 : W1.heap[v1.heap.size]? = some (.cells #[.slice x0a x0n x0c, .slice x1a x1n x1c, .slice x2a x2n x2c, .slice x3a x3n x3c, .slice (some ⟨cb, 0, none⟩) 1 x4c] 28 (0, 0)) := by rw [hW1, Below.heap_alloc _ _ _ (by simp)]; exact heap_alloc_new v1 _
 have f1 : W1.heap[v1.heap.size + 1]? = some (.cells #[.int .i64 0, .int .i64 0] 31 (0, 0)) := by
  rw [hW1]
  have := heap_alloc_new (v1.alloc (.cells #[.slice x0a x0n x0c, .slice x1a x1n x1c, .slice x2a x2n x2c, .slice x3a x3n x3c, .slice (some ⟨cb, 0, none⟩) 1 x4c] 28)) (.cells #[.int .i64 0, .int .i64 0] 31)
  simpa using this
 obtain ⟨kp, hkp⟩ : ∃ k, v1.heap.size = k := ⟨_, rfl⟩
 have B1 : Below w.heap.size w W1 := b1.trans (c1.mono b1.size)
 rw [hkp] at hR1' hcb hA hB p1 f1 c1
 have hPW : ∀ W, Below W1.heap.size W1 W → PgS (fun q => q < kp) W [.slice x0a x0n x0c, .slice x1a x1n x1c, .slice x2a x2n x2c, .slice x3a x3n x3c, .slice (some ⟨cb, 0, none⟩) 1 x4c] (pg1 a b c o) := fun W bW => by
  have bb := c1.trans (bW.mono (by have := c1.size; omega))
  exact Qar.same _ _ _ _ _ hR1' (by have := bb.size; omega) (fun q hq _ => bb.block q hq)
 have hAW : ∀ W, Below W1.heap.size W1 W → LsAt PE 5 (fun q => q < kp) W (.slice aa an ac) (caQ o).head.args := fun W bW => by
  have bb := c1.trans (bW.mono (by have := c1.size; omega))
  exact hA.same Qae (by have := bb.size; omega) (fun q hq _ => bb.block q hq)
 have hBW : ∀ W, Below W1.heap.size W1 W → LsAt PLt 16 (fun q => q < kp) W (.slice ba bn bc) (caQ o).body := fun W bW => by
  have bb := c1.trans (bW.mono (by have := c1.size; omega))
  exact hB.same Qay (by have := bb.size; omega) (fun q hq _ => bb.block q hq)
 have HC : Hid (∀ W : World, Below W1.heap.size W1 W → W.heap[kp]? = some (.cells #[.slice x0a x0n x0c, .slice x1a x1n x1c, .slice x2a x2n x2c, .slice x3a x3n x3c, .slice (some ⟨cb, 0, none⟩) 1 x4c] 28 (0, 0)) ∧ ∀ q v, ([str tQ, .slice aa an ac, .int .i64 o.b, .slice ba bn bc, .int .i64 o.m] : List Value)[q]? = some v → W.cell? ⟨cb, q, none⟩ = some v) := fun W bW => ⟨(bW.block _ (Qab p1)).trans p1, fun q v hv => by
  rw [bW.cell (p := ⟨cb, q, none⟩) (by have := c1.size; show cb < _; omega), c1.cell (p := ⟨cb, q, none⟩) hcb]
  exact hcc q v hv⟩
 have HL : Hid (∀ W : World, Below W1.heap.size W1 W → Calls Try.prog 41 #[.agg #[.slice x0a x0n x0c, .slice x1a x1n x1c, .slice x2a x2n x2c, .slice x3a x3n x3c, .slice (some ⟨cb, 0, none⟩) 1 x4c], .agg #[str tQ, .slice aa an ac, .int .i64 o.b, .slice ba bn bc, .int .i64 o.m]] W fun en w' => ∃ g cap, en = .returned (.tuple #[.slice (some ⟨g, 0, none⟩) 1 cap, .agg #[.int .i64 0, .int .i64 0]]) ∧ g < w'.heap.size ∧ w'.cell? ⟨g, 0, none⟩ = some (str tX) ∧ w'.cell? ⟨g, 1, none⟩ = some (str tA) ∧ Below W.heap.size W w') := fun W bW => by
  have := Qol (n0 := kp) (by have h1 := bW.size; have h2 := Qab p1; omega) (hPW W bW) (by show 1 ≤ 1000000000; decide) (caQ o) (hAW W bW) (hBW W bW) (fun cc => Qho (vcs_Q1 a b c o) cc)
  rw [inf_Q1] at this
  refine this.mono ?_
  rintro en w' ⟨b9, sl, rfl, hr⟩
  obtain ⟨g, cap, rfl, _, e2, e3, e4⟩ := row_1 hr
  exact ⟨g, cap, rfl, e2, e3, e4, b9⟩
 have HLB : Hid (∀ W : World, Below W1.heap.size W1 W → Calls Try.prog 12 #[.agg #[.slice x0a x0n x0c, .slice x1a x1n x1c, .slice x2a x2n x2c, .slice x3a x3n x3c, .slice (some ⟨cb, 0, none⟩) 1 x4c], str tA, str tNum] W fun en w' => en = .returned (.bool true) ∧ Below W.heap.size W w') := fun W bW => by
  have := Qhb (n0 := kp) (by have h1 := bW.size; have h2 := Qab p1; omega) (hPW W bW) (by show 1 ≤ 1000000000; decide) tA tNum
  rw [below_1] at this
  exact this
 have HB1 := hide B1
 have HF := hide (Ya p1 f1)
 have HW1 := hide hW1
 have HK := hide hkp
 clear hR1 hR1' hcb hcc hA hB c1 p1 f1 B1 hPW hAW hBW hW1 b1 hkp
 go_upto_region 2 with fail
 rw [← Qa HW1, Qa HK]
 obtain ⟨x_0, x_1, x_2, x_3, x_4, xf⟩ := cl5 (Qa HF).1
 obtain ⟨y_0, y_1, yf⟩ := cl2 (Qa HF).2
 go_upto_region 4 with fail
 clear x_0 x_1 x_2 x_3 x_4 xf y_0 y_1 yf
 go_cut [3, 4] from 5 (fun u3 u4 wc => ∃ (gb cap fb : Nat), u3 = .slice (some ⟨gb, 0, none⟩) 1 cap ∧ u4 = .pointer (some ⟨fb, 0, none⟩) ∧ Hid (Below W1.heap.size W1 wc ∧ wc.heap[fb]? = some (.cells #[.int .i64 0, .int .i64 0] 31 (0, 0)) ∧ gb < wc.heap.size ∧ wc.cell? ⟨gb, 0, none⟩ = some (str tX) ∧ wc.cell? ⟨gb, 1, none⟩ = some (str tA)))
 case first =>
  go_wp2_with fail
  refine Qcz (tr := (.take 0 (.take 1 (.take 2 (.take 3 (.take 4 (.two 5 9 (.take 6 (.take 7 (.take 8 (.one 9 (.take 10 (.one 11 .nil)))))) (.one 5 (.take 6 (.take 7 (.take 8 (.take 10 (.one 11 .nil)))))))))))) ) (fun W => W.heap[kp]? = some (.cells #[.slice x0a x0n x0c, .slice x1a x1n x1c, .slice x2a x2n x2c, .slice x3a x3n x3c, .slice (some ⟨cb, 0, none⟩) 1 x4c] 28 (0, 0)) ∧ ∀ q v, ([str tQ, .slice aa an ac, .int .i64 o.b, .slice ba bn bc, .int .i64 o.m] : List Value)[q]? = some v → W.cell? ⟨cb, q, none⟩ = some v) mixedO (by kernel_rfl) rfl (by kernel_rfl) (fun PP hPP => ?_)
  refine Qag (v := ?_) rfl (by kernel_rfl) (fun w' hw => ?_) ?_
  rotate_left
  · (obtain ⟨k_b, k_f⟩ := hw; obtain ⟨k_0, k_1, k_2, k_3, k_4, kf⟩ := cl5 k_b; have l_0 := k_f 0 _ rfl; have l_1 := k_f 1 _ rfl; have l_2 := k_f 2 _ rfl; have l_3 := k_f 3 _ rfl; have l_4 := k_f 4 _ rfl; go_simp <;> rfl)
  refine Qag (v := ?_) rfl (by kernel_rfl) (fun w' hw => ?_) ?_
  rotate_left
  · (obtain ⟨k_b, k_f⟩ := hw; obtain ⟨k_0, k_1, k_2, k_3, k_4, kf⟩ := cl5 k_b; have l_0 := k_f 0 _ rfl; have l_1 := k_f 1 _ rfl; have l_2 := k_f 2 _ rfl; have l_3 := k_f 3 _ rfl; have l_4 := k_f 4 _ rfl; go_simp <;> rfl)
  refine Qag (v := ?_) rfl (by kernel_rfl) (fun w' hw => ?_) ?_
  rotate_left
  · (obtain ⟨k_b, k_f⟩ := hw; obtain ⟨k_0, k_1, k_2, k_3, k_4, kf⟩ := cl5 k_b; have l_0 := k_f 0 _ rfl; have l_1 := k_f 1 _ rfl; have l_2 := k_f 2 _ rfl; have l_3 := k_f 3 _ rfl; have l_4 := k_f 4 _ rfl; go_simp <;> rfl)
  refine Qag (v := ?_) rfl (by kernel_rfl) (fun w' hw => ?_) ?_
  rotate_left
  · (obtain ⟨k_b, k_f⟩ := hw; obtain ⟨k_0, k_1, k_2, k_3, k_4, kf⟩ := cl5 k_b; have l_0 := k_f 0 _ rfl; have l_1 := k_f 1 _ rfl; have l_2 := k_f 2 _ rfl; have l_3 := k_f 3 _ rfl; have l_4 := k_f 4 _ rfl; go_simp <;> rfl)
  refine Qag (v := ?_) rfl (by kernel_rfl) (fun w' hw => ?_) ?_
  rotate_left
  · (obtain ⟨k_b, k_f⟩ := hw; obtain ⟨k_0, k_1, k_2, k_3, k_4, kf⟩ := cl5 k_b; have l_0 := k_f 0 _ rfl; have l_1 := k_f 1 _ rfl; have l_2 := k_f 2 _ rfl; have l_3 := k_f 3 _ rfl; have l_4 := k_f 4 _ rfl; go_simp <;> rfl)
  refine Qdt rfl rfl (Qa HC W1.drew (Below.refl _ W1).drew) (fun K hK2 => ?_) (fun K hK2 => ?_)
  ·
   go_simp
   refine (Qa HL W1.drew (Below.refl _ W1).drew).mono ?_
   rintro en w5 ⟨g, cap, rfl, hg, hx0, hx1, b5⟩
   show K _ _
   refine hK2 _ _ ?_
   clear hK2 K
   have bw5 : Below W1.heap.size W1 w5 := (Below.refl _ W1).drew.trans b5
   iterate 3 (refine Qag (v := ?_) rfl (by kernel_rfl) (fun w' hw => ?_) ?_; rotate_left; · (go_simp <;> rfl))
   refine Qat rfl (Qa HC w5 bw5) (fun K hK2 => ?_)
   go_simp
   refine hK2 _ _ ?_
   clear hK2 K
   have b6 : Below w5.heap.size w5 (w5.alloc (.cells #[.int .i64 0, .int .i64 0] 31)) := (Below.refl _ w5).alloc (Nat.le_refl _) _
   refine Qag (v := ?_) rfl (by kernel_rfl) (fun w' hw => ?_) ?_
   rotate_left
   · (go_simp <;> rfl)
   refine Qat rfl (Qa HC _ (bw5.trans (b6.mono bw5.size))) (fun K hK2 => ?_)
   go_simp
   refine hK2 _ _ ?_
   clear hK2 K
   obtain ⟨W7, hW7⟩ : ∃ W7, W7 = w5.alloc (.cells #[.int .i64 0, .int .i64 0] 31) := ⟨_, rfl⟩
   have b7 := bnw hW7
   have n7 := nnw hW7
   rw [← hW7]
   have bw7 := bw5.trans (b7.mono bw5.size)
   refine Qbl (Qa HC _ bw7) (hPP _ _ ?_)
   clear hPP PP
   have HEND := hide (Ya bw7 (Ya n7 (Ya (show g < W7.heap.size by have := b7.size; omega) (Ya ((b7.cell (p := ⟨g, 0, none⟩) hg).trans hx0) ((b7.cell (p := ⟨g, 1, none⟩) hg).trans hx1)))))
   clear hg hx0 hx1 b5 bw5 b6 hW7 b7 n7 bw7
   go_wp2_with fail
   go_meet
   exact ⟨g, cap, _, rfl, rfl, HEND⟩
  go_simp
  refine hK2 _ _ ?_
  clear hK2 K
  obtain ⟨w4, hw4⟩ : ∃ w4, w4 = (W1.alloc (.cells #[.int .i64 0, .int .i64 0] 31)).drew := ⟨_, rfl⟩
  have b4 : Below W1.heap.size W1 w4 := by rw [hw4]; exact ((Below.refl _ _).alloc (Nat.le_refl _) _).drew
  have n4 : w4.heap[W1.heap.size]? = some (.cells #[.int .i64 0, .int .i64 0] 31 (0, 0)) := by rw [hw4]; exact heap_alloc_new W1 _
  rw [← hw4]
  clear hw4
  refine Qat rfl (Qa HC w4 b4) (fun K hK2 => ?_)
  go_simp
  refine (Qa HL w4 b4).mono ?_
  rintro en w5 ⟨g, cap, rfl, hg, hx0, hx1, b5⟩
  show K _ _
  refine hK2 _ _ ?_
  clear hK2 K
  have bw5 := b4.trans (b5.mono b4.size)
  have n5 := (b5.block _ (Qab n4)).trans n4
  iterate 4 (refine Qag (v := ?_) rfl (by kernel_rfl) (fun w' hw => ?_) ?_; rotate_left; · (go_simp <;> rfl))
  obtain ⟨W7, hW7, sc⟩ := sc2 n5 (.int .i64 0) (.int .i64 0)
  obtain ⟨y_0, y_1, yf⟩ := cl2 n5
  have hgn : g ≠ W1.heap.size := fun e => by
   subst e
   rw [Qaf n5] at hx0
   cases hx0
  refine Qat rfl (Qa HC w5 bw5) (fun K hK2 => ?_)
  go_simp
  rw [← hW7]
  refine hK2 _ _ ?_
  clear hK2 K
  have bw7 := sc.below bw5 (Nat.le_refl _)
  refine Qbl (Qa HC _ bw7) (hPP _ _ ?_)
  clear hPP PP
  have hcl : ∀ q, W7.cell? ⟨g, q, none⟩ = w5.cell? ⟨g, q, none⟩ := fun q => by
   have := sc.oth g hgn
   simp only [World.cell?, this]
  have HEND := hide (Ya bw7 (Ya sc.box (Ya (show g < W7.heap.size by rw [sc.size]; exact hg) (Ya ((hcl 0).trans hx0) ((hcl 1).trans hx1)))))
  clear hg hx0 hx1 b4 n4 b5 bw5 n5 hW7 sc bw7 hcl hgn y_0 y_1 yf
  go_wp2_with fail
  go_meet
  exact ⟨g, cap, _, rfl, rfl, HEND⟩
 obtain ⟨gb, cap, fb, rfl, rfl, HE⟩ := hcut
 obtain ⟨WX, hWX⟩ : ∃ WX, WX = wc := ⟨_, rfl⟩
 subst hWX
 have hpq := Qa hp2 WX
 clear HL hp2
 go_wp2_with fail
 refine hpq.mono ?_
 clear hpq
 rintro e v2 ⟨z0a, z0n, z0c, z1a, z1n, z1c, z2a, z2n, z2c, z3a, z3n, z3c, z4a, z4n, z4c, p2, rfl, b2, hR2, a', b', c', o', u', rfl⟩
 obtain ⟨rfl, rfl⟩ := mem_2 hR2
 have hR2' := Qar.mono _ (fun q => q < v2.heap.size) _ _ _ hR2 (fun q hl _ => hl)
 obtain ⟨W2, hW2⟩ : ∃ W2, W2 = (v2.alloc (.cells #[.slice z0a z0n z0c, .slice z1a z1n z1c, .slice z2a 0 z2c, .slice z3a 0 z3c, .slice z4a z4n z4c] 28)).alloc (.cells #[.int .i64 0, .int .i64 0] 31) := ⟨_, rfl⟩
 have c2 : Below v2.heap.size v2 W2 := by rw [hW2]; exact ((Below.refl _ v2).alloc (Nat.le_refl _) _).alloc (by simp) _
 have p2 : W2.heap[v2.heap.size]? = some (.cells #[.slice z0a z0n z0c, .slice z1a z1n z1c, .slice z2a 0 z2c, .slice z3a 0 z3c, .slice z4a z4n z4c] 28 (0, 0)) := by rw [hW2, Below.heap_alloc _ _ _ (by simp)]; exact heap_alloc_new v2 _
 obtain ⟨kq, hkq⟩ : ∃ k, v2.heap.size = k := ⟨_, rfl⟩
 rw [hkq] at hR2' p2 c2
 have hck := Qla (n0 := kq) (w := W2) (by have h2 := Qab p2; omega) (Qar.same _ _ _ _ _ hR2' c2.size (fun q hq _ => c2.block q hq)) (by show 1 ≤ 1000000000; decide) (fun cc x hx => by
  have hx' : x ∈ [caQ o', caE u'] := hx
  simp only [List.mem_cons, List.not_mem_nil, or_false] at hx'
  rcases hx' with rfl | rfl
  · exact Qho (vcs_Q2 a' b' c' o' u') cc
  · exact Qho (vcs_E2 a' b' c' o' u') cc)
 rw [ck_2] at hck
 unfold ftV at hck
 obtain ⟨bX, nX, hgX, hx0, hx1⟩ := Qa HE
 have bX2 := b2.trans ((hkq ▸ c2 : Below v2.heap.size v2 W2).mono b2.size)
 have H2 := hide (Ya (bX.trans (bX2.mono bX.size)) (Ya ((bX2.block _ (Qab nX)).trans nX) (Ya (show gb < W2.heap.size by have := bX2.size; omega) (Ya ((bX2.cell (p := ⟨gb, 0, none⟩) hgX).trans hx0) ((bX2.cell (p := ⟨gb, 1, none⟩) hgX).trans hx1)))))
 obtain ⟨x_0, x_1, x_2, x_3, x_4, xf⟩ := cl5 p2
 have HW2 := hide (Ya hW2 hkq)
 clear b2 hR2 hR2' hW2 c2 p2 hkq bX nX hgX hx0 hx1 bX2 HE
 go_upto_region 6 with fail
 rw [← (Qa HW2).1, (Qa HW2).2]
 go_wp2_with fail
 refine hck.mono ?_
 clear hck x_0 x_1 x_2 x_3 x_4 xf HW2
 rintro en w6 ⟨rfl, b6⟩
 obtain ⟨w7, hw7⟩ : ∃ w7, w7 = w6.alloc (.cells #[.int .i64 13, .int .i64 u'.a] 31) := ⟨_, rfl⟩
 have b7 := bnw hw7
 have n7 := nnw hw7
 obtain ⟨xb, hxb⟩ : ∃ xb, w6.heap.size = xb := ⟨_, rfl⟩
 rw [hxb] at n7
 have b27 := b6.trans (b7.mono b6.size)
 obtain ⟨bX, nX, hgX, hx0, hx1⟩ := Qa H2
 have b17 := bX.trans (b27.mono bX.size)
 have hlb := Qa HLB w7 b17
 have y_0 := (b27.cell (p := ⟨gb, 0, none⟩) hgX).trans hx0
 have y_1 := (b27.cell (p := ⟨gb, 1, none⟩) hgX).trans hx1
 obtain ⟨f_0, f_1, ff⟩ := cl2 ((b27.block _ (Qab nX)).trans nX)
 obtain ⟨d_0, d_1, df⟩ := cl2 n7
 obtain ⟨x_0, x_1, x_2, x_3, x_4, xf⟩ := cl5 (Qa HC w7 b17).1
 have HB7 := hide ((Qa HB1).trans (b17.mono (Qa HB1).size))
 have HW7 := hide (Ya hw7 hxb)
 clear b6 hw7 b7 n7 hxb b27 bX nX hgX hx0 hx1 b17 H2
 go_upto_region 7 with fail
 rw [← (Qa HW7).1, (Qa HW7).2]
 go_wp2_with fail
 refine hlb.mono ?_
 clear hlb
 rintro en w8 ⟨rfl, b8⟩
 have HB8 := hide ((Qa HB7).trans (b8.mono (Qa HB7).size))
 clear b8
 go_wp2_with fail
 go_ret
 exact ⟨rfl, Qa HB8⟩
end
end Go.Proofs.Ytfmbpaoapjmdnaa
