/- The document's reader by the tokens that are next: a list of expressions. The document's reader by the tokens that are next: enter, expr and factor, where what they call is told. The document's reader by the tokens that are next: row at its last level. -/
import Derived.Test.YtfmbpaoapjmdnaaQb27
import Derived.Test.YtfmbpaoapjmdnaaQb10
import Derived.Test.YtfmbpaoapjmdnaaQb11
import Derived.Test.YtfmbpaoapjmdnaaQb13
set_option maxRecDepth 100000
set_option maxHeartbeats 32000000
namespace Go.Proofs.Ytfmbpaoapjmdnaa
section
open Go.RowKit Go.Maps
theorem Qcr {α : Type} (eq : α → α → Bool) : ∀ (xs ys : List α) (x y : α), eqL eq xs ys = true → eq x y = true → eqL eq (xs ++ [x]) (ys ++ [y]) = true
 | [], [], x, y, _, h => by simp [eqL, h]
 | [], b :: ys, x, y, h, _ => by simp [eqL] at h
 | a :: xs, [], x, y, h, _ => by simp [eqL] at h
 | a :: xs, b :: ys, x, y, h, h2 => by
  rw [Qdk, Bool.and_eq_true] at h
  rw [List.cons_append, List.cons_append, Qdk, h.1, Qcr eq xs ys x y h.2 h2]; rfl
def YE (F rb g cap : Nat) (l : List Tok) (d : Nat) (Fol : List Tok → Prop) (K : List Tok) (x : Ex) : Prop := ∀ (w : World) (a i : Nat) (r : List Tok), Rr rb g cap l w a d i 0 0 → Nxt l a (K ++ r) → Fol r →
 Calls Try.prog F #[.pointer (some ⟨rb, 0, none⟩)] w fun en w' => XB rb g cap l w d (fun w' v => ∃ x', VE (fun b => w.heap.size ≤ b) w' v x' ∧ eqE x' x = true) r i en w'
theorem Qma {rb g cap a d i : Nat} {l : List Tok} {w : World} (h : Rr rb g cap l w a d i 0 0) {Fol : List Tok → Prop} (hF1 : ∀ r, Fol (sgQ [44] :: r)) (hF2 : ∀ r, Fol (sgQ [41] :: r)) {K : Ex → List Tok} {xs : List Ex} (hx : ∀ x ∈ xs, YE 116 rb g cap l d Fol (K x) x ∧ ∃ t0 ks, K x = t0 :: ks ∧ isSg t0 [41] = false) (hm : xs.length ≤ 8) {rest : List Tok} (hA : Nxt l a (sgQ [40] :: (joinQ (xs.map K) ++ sgQ [41] :: rest))) :
  Calls Try.prog 115 #[.pointer (some ⟨rb, 0, none⟩)] w fun en w' => XB rb g cap l w d (fun w' v => ∃ ys, LsAt PE 5 (fun b => w.heap.size ≤ b) w' v ys ∧ eqL eqE ys xs = true) rest i en w' := by
 have hms := Qcp h hA
 have HRB := hide (Ya (Qab h.box) h.row.lt)
 have HX := hide hx
 have HF1 := hide hF1
 have HF2 := hide hF2
 obtain ⟨n, hn⟩ : ∃ n, xs.length = n := ⟨_, rfl⟩
 have HN := hide hn
 rw [hn] at hm
 clear h hA hx hF1 hF2 hn
 go_enter Try.func115, Try.ntmps115
 go_wp2_with fail
 refine hms.mono ?_
 clear hms
 rintro en w1 ⟨_, a0, rfl, rfl, h0, k0, hA0⟩
 have H0 := hide (Ya h0 (Ya k0 hA0))
 clear h0 k0 hA0
 go_wp2_with fail
 go_loopw [3, 4] (fun sl fb wr => ∃ (j a1 : Nat) (fst : Bool) (sa : Option Addr) (sc : Nat) (ys : List Ex), sl = .slice sa j sc ∧ fb = .bool fst ∧ j ≤ n ∧ j ≤ sc ∧ sc ≤ maxLen ∧ Hid (Qown PE 5 126 w wr (.slice sa j sc) ys ∧ Rr rb g cap l wr a1 d i 0 0 ∧ Kp rb w wr ∧ Nxt l a1 (leftQ K xs j ++ sgQ [41] :: rest) ∧ fst = decide (j = 0) ∧ ys.length = j ∧ eqL eqE ys (xs.take j) = true)) (fun sl _ _ => n + 1 - lenV sl)
 case atStart =>
  obtain ⟨h0, k0, hA0⟩ := Qa H0
  exact ⟨0, a0, true, none, 0, [], rfl, rfl, Nat.zero_le _, Nat.le_refl _, by unfold maxLen; omega, hide ⟨Qown.nil _ _, h0, k0, hA0, rfl, rfl, rfl⟩⟩
 obtain ⟨j, a1, fst, sa, sc, ys, rfl, rfl, hj, hc1, hc2, HI⟩ := hrel
 unfold maxLen at hc2
 clear H0
 go_upto_region 4 with fail
 go_cut [24] from 7 to 34 (fun c wc => ∃ (aX : Nat), c = .bool (decide (j < n)) ∧ Hid (Qown PE 5 126 w wc (.slice sa j sc) ys ∧ Rr rb g cap l wc aX d i 0 0 ∧ Kp rb w wc ∧ (j < n → ∃ x, xs[j]? = some x ∧ Nxt l aX (K x ++ (leftQ K xs (j + 1) ++ sgQ [41] :: rest))) ∧ (¬ j < n → Nxt l aX (sgQ [41] :: rest))))
 case first =>
  have hwl := Qao (Qa HI).2.1
  rw [decide_eq_true rfl] at hwl
  cases fst
  ·
   have h0 : j ≠ 0 := by simpa using (Qa HI).2.2.2.2.1.symm
   by_cases hlt : j < n
   ·
    obtain ⟨x, hxj⟩ : ∃ x, xs[j]? = some x := ⟨xs[j]'(by rw [Qa HN]; exact hlt), List.getElem?_eq_getElem _⟩
    have hq := (Qa HI).2.2.2.1
    rw [Qcy K h0 hxj] at hq
    simp only [List.cons_append, List.append_assoc] at hq
    have hmy := Qcu (Qa HI).2.1 hq
    have HXJ := hide hxj
    clear hq hxj h0
    go_wp2_with fail
    refine hwl.mono ?_
    clear hwl
    rintro en wq ⟨rfl, rfl⟩
    go_wp2_with fail
    refine hmy.mono ?_
    clear hmy
    rintro en WX ⟨_, aX, rfl, rfl, h2, k2, hq⟩
    have X2 := hide (Ya ((Qa HI).1.kp Qae k2 (Qa HRB).1) (Ya h2 (Ya ((Qa HI).2.2.1.trans k2) hq)))
    clear h2 k2 hq
    go_wp2_with fail
    go_meet
    obtain ⟨h1, h2, h3, hq⟩ := Qa X2
    exact ⟨aX, by rw [decide_eq_true hlt], hide ⟨h1, h2, h3, fun _ => ⟨x, Qa HXJ, hq⟩, fun e => absurd hlt e⟩⟩
   have hq := (Qa HI).2.2.2.1
   rw [show leftQ K xs j = [] by rw [show j = n by omega, ← Qa HN, Qcn], List.nil_append] at hq
   have hmy := Qch (s := [44]) (Qa HI).2.1 hq (by decide)
   clear hq h0
   go_wp2_with fail
   refine hwl.mono ?_
   clear hwl
   rintro en wq ⟨rfl, rfl⟩
   go_wp2_with fail
   refine hmy.mono ?_
   clear hmy
   rintro en WX ⟨_, aX, rfl, rfl, h2, k2, hq⟩
   have X2 := hide (Ya ((Qa HI).1.kp Qae k2 (Qa HRB).1) (Ya h2 (Ya ((Qa HI).2.2.1.trans k2) hq)))
   clear h2 k2 hq
   go_wp2_with fail
   go_meet
   obtain ⟨h1, h2, h3, hq⟩ := Qa X2
   exact ⟨aX, by rw [decide_eq_false hlt], hide ⟨h1, h2, h3, fun e => absurd e hlt, fun _ => hq⟩⟩
  have h0 : j = 0 := by simpa using (Qa HI).2.2.2.2.1.symm
  by_cases hlt : j < n
  ·
   obtain ⟨x, hxj⟩ : ∃ x, xs[j]? = some x := ⟨xs[j]'(by rw [Qa HN]; exact hlt), List.getElem?_eq_getElem _⟩
   have hq := (Qa HI).2.2.2.1
   rw [show leftQ K xs j = K x ++ leftQ K xs (j + 1) by rw [h0] at hxj ⊢; exact Qes K hxj, List.append_assoc] at hq
   obtain ⟨t0, ks, hk0, hs0⟩ := (Qa HX x (List.mem_of_getElem? hxj)).2
   have hsg := Qbe (Qa HI).2.1 (show Nxt l a1 (t0 :: (ks ++ _)) by have q := hq; rw [hk0] at q; exact q) [41]
   rw [hs0] at hsg
   clear hk0 hs0
   have HQ := hide (Ya hq hxj)
   clear hq hxj h0
   go_wp2_with fail
   refine hwl.mono ?_
   clear hwl
   rintro en wq ⟨rfl, rfl⟩
   go_wp2_with fail
   refine hsg.mono ?_
   clear hsg
   rintro en WX ⟨rfl, b2⟩
   have X2 := hide (Ya ((Qa HI).1.kp Qae (Kp.of_below (rb := rb) b2) (Qa HRB).1) (Ya ((Qa HI).2.1.later b2) ((Qa HI).2.2.1.trans (Kp.of_below b2))))
   clear b2
   go_wp2_with fail
   go_meet
   obtain ⟨h1, h2, h3⟩ := Qa X2
   exact ⟨a1, by rw [decide_eq_true hlt], hide ⟨h1, h2, h3, fun _ => ⟨x, (Qa HQ).2, (Qa HQ).1⟩, fun e => absurd hlt e⟩⟩
  have hq := (Qa HI).2.2.2.1
  rw [show leftQ K xs j = [] by rw [show j = n by omega, ← Qa HN, Qcn], List.nil_append] at hq
  have hsg := Qbe (Qa HI).2.1 hq [41]
  rw [show isSg (sgQ [41]) [41] = true by simp [isSg, sgQ]] at hsg
  have HQ := hide hq
  clear hq h0
  go_wp2_with fail
  refine hwl.mono ?_
  clear hwl
  rintro en wq ⟨rfl, rfl⟩
  go_wp2_with fail
  refine hsg.mono ?_
  clear hsg
  rintro en WX ⟨rfl, b2⟩
  have X2 := hide (Ya ((Qa HI).1.kp Qae (Kp.of_below (rb := rb) b2) (Qa HRB).1) (Ya ((Qa HI).2.1.later b2) ((Qa HI).2.2.1.trans (Kp.of_below b2))))
  clear b2
  go_wp2_with fail
  go_meet
  obtain ⟨h1, h2, h3⟩ := Qa X2
  exact ⟨a1, by rw [decide_eq_false hlt], hide ⟨h1, h2, h3, fun e => absurd e hlt, fun _ => Qa HQ⟩⟩
 obtain ⟨aX, rfl, X0⟩ := hcut
 by_cases hlt : j < n
 ·
  rw [decide_eq_true hlt]
  obtain ⟨hq, hX, kX, hA1, _⟩ := Qa X0
  obtain ⟨x, hxj, hA⟩ := hA1 hlt
  have hwx := (Qa HX x (List.mem_of_getElem? hxj)).1
  have hfol : Fol (leftQ K xs (j + 1) ++ sgQ [41] :: rest) := by
   by_cases h1 : j + 1 < n
   ·
    rw [Qcy K (by omega) (List.getElem?_eq_getElem (show j + 1 < xs.length by rw [Qa HN]; exact h1))]
    exact Qa HF1 _
   rw [show leftQ K xs (j + 1) = [] by rw [show j + 1 = n by omega, ← Qa HN, Qcn]]
   exact Qa HF2 _
  have hex := hwx _ _ _ _ hX hA hfol
  have htk : xs.take (j + 1) = xs.take j ++ [x] := by rw [List.take_add_one, hxj]; rfl
  have g8 : ¬ ((8 : Int) ≤ (j : Int)) := by omega
  have XF := hide (Ya hq (Ya kX htk))
  obtain ⟨WX, hWX⟩ : ∃ WX, WX = wc := ⟨_, rfl⟩
  subst hWX
  clear hq hX kX hA1 hxj hA hwx htk hfol X0
  go_wp2_with fail
  refine hex.mono ?_
  clear hex
  rintro en w7 ⟨_, a7, rfl, ⟨x7, ⟨_, rfl, ⟨ka, kn, kc, rfl⟩, hx7⟩, he7⟩, h7, k7, n7x⟩
  obtain ⟨hq, kX, htk⟩ := Qa XF
  obtain ⟨i0, hi, hz, hsz, hby⟩ := infoE
  obtain ⟨r, wz, hrun, kpz, rdz, hown⟩ := hq.more Qae (by kernel_rfl : Try.prog.underlying 73 = some (.slice 126)) hi hz hsz hby rfl (by decide) (by decide) kX (x := x7) (cs := [.int .i64 x7.kind, .int .i64 x7.num, str x7.txt, .slice ka kn kc, .int .i64 x7.at_]) rfl (by simp [Value.oneCell', str]) hx7 h7 k7 (Qa HRB).1 (Qa HRB).2 (by rw [(Qa HI).2.2.2.2.2.1]; omega)
  obtain ⟨ra, rc, er, hr1, hr2⟩ := hown.sl
  subst er
  have HRUN := hide hrun
  have hyl : (ys ++ [x7]).length = j + 1 := by rw [List.length_append, (Qa HI).2.2.2.2.2.1]; rfl
  have hye : eqL eqE (ys ++ [x7]) (xs.take (j + 1)) = true := by rw [htk]; exact Qcr eqE _ _ _ _ (Qa HI).2.2.2.2.2.2 he7
  have HE := hide (Ya hown (Ya rdz (Ya kpz (Ya hr1 (Ya hr2 (Ya n7x (Ya hyl hye)))))))
  clear hx7 he7 h7 k7 hq kX htk hi hz hsz hby hrun kpz rdz hown hr1 hr2 n7x hyl hye
  go_wp2_with (at_builtin; refine Qaj _ rfl _ _ 73 rfl _ _ rfl rfl _ _ (Qa HRUN) ?_; clear HRUN)
  go_roundw
  case rel =>
   obtain ⟨hown, rdz, kpz, hr1, hr2, n7x, hyl, hye⟩ := Qa HE
   have hyj := (Qa HI).2.2.2.2.2.1
   refine ⟨j + 1, _, false, ra, rc, ys ++ [x7], by first | rw [hyl] | (congr 1; omega) | (simp [hyj]), rfl, by omega, by omega, hr2, hide ⟨?_, rdz, kpz, n7x, by simp, hyl, hye⟩⟩
   rw [hyl] at hown
   exact hown
  have hyj := (Qa HI).2.2.2.2.2.1
  simp [lenV]
  omega
 rw [decide_eq_false hlt]
 obtain ⟨hq, hX, kX, _, hA1⟩ := Qa X0
 have hms := Qcp hX (hA1 hlt)
 have X2 := hide (Ya hq kX)
 have ej : j = n := by omega
 have HE := hide (show eqL eqE ys xs = true by have q := (Qa HI).2.2.2.2.2.2; rw [ej, ← Qa HN, List.take_length] at q; exact q)
 clear hq hX kX hA1 X0 ej
 go_wp2_with fail
 refine hms.mono ?_
 clear hms
 rintro en w9 ⟨_, a9, rfl, rfl, h9, k9, n9⟩
 have HZ := hide (Ya h9 (Ya k9 n9))
 clear h9 k9 n9
 go_wp2_with fail
 go_ret
 obtain ⟨h9, k9, n9⟩ := Qa HZ
 obtain ⟨hq, kX⟩ := Qa X2
 exact ⟨_, _, rfl, ⟨ys, (hq.kp Qae k9 (Qa HRB).1).ls Qae, Qa HE⟩, h9, kX.trans k9, n9⟩
end
section
open Go.RowKit Go.Maps
theorem Qex {rb g cap a d i : Nat} {l : List Tok} {w : World} (h : Rr rb g cap l w a d i 0 0) (hd : d < 32) :
  Calls Try.prog 54 #[.pointer (some ⟨rb, 0, none⟩)] w fun en w' => XA rb g cap l w (d + 1) noV a i en w' := by
 obtain ⟨x_0, x_1, x_2, x_3, x_4, x_5, xf⟩ := cl6 h.box
 have H := hide h
 clear h
 have g32 : ¬ ((32 : Int) ≤ (d : Int)) := by omega
 have HD := hide hd
 clear hd
 go_enter Try.func54, Try.ntmps54
 go_wp2_with fail
 go_end0
 exact ⟨_, rfl, rfl, (Qa H).setD (d' := d + 1) (by have := Qa HD; omega), Kp.set _ _ _ _⟩
def YEa (F rb g cap : Nat) (l : List Tok) (d : Nat) (args : Array Value) (Fol : List Tok → Prop) (K : List Tok) (x : Ex) : Prop := ∀ (w : World) (a i : Nat) (r : List Tok), Rr rb g cap l w a d i 0 0 → Nxt l a (K ++ r) → Fol r →
 Calls Try.prog F args w fun en w' => XB rb g cap l w d (fun w' v => ∃ x', VE (fun b => w.heap.size ≤ b) w' v x' ∧ eqE x' x = true) r i en w'
attribute [local go_sem ↓] Qbk Qbw
theorem Qqk {rb g cap d : Nat} {l : List Tok} (hd : d < 32) {Fol : List Tok → Prop} {K : List Tok} {x : Ex} (hI : YEa 127 rb g cap l (d + 1) #[.pointer (some ⟨rb, 0, none⟩), .int .i64 0] Fol K x) : YE 116 rb g cap l d Fol K x := by
 intro w a i r h hA hF
 have b0 : Below w.heap.size w (w.alloc (.cells #[.int .i64 0, .int .i64 0, .string ⟨#[]⟩, .slice none 0 0, .int .i64 0] 126)) := (Below.refl _ w).alloc (Nat.le_refl _) _
 have n0 : (w.alloc (.cells #[.int .i64 0, .int .i64 0, .string ⟨#[]⟩, .slice none 0 0, .int .i64 0] 126)).heap[w.heap.size]? = some (.cells #[.int .i64 0, .int .i64 0, .string ⟨#[]⟩, .slice none 0 0, .int .i64 0] 126 (0, 0)) := heap_alloc_new w _
 have s0 : (w.alloc (.cells #[.int .i64 0, .int .i64 0, .string ⟨#[]⟩, .slice none 0 0, .int .i64 0] 126)).heap.size = w.heap.size + 1 := by simp
 have hen := Qex (h.later b0) hd
 have hrl := Qab h.box
 have hgl := h.row.lt
 have HGN := hide (show g ≠ w.heap.size by omega)
 have HB0 := hide (Ya b0 (Ya n0 s0))
 have HI := hide hI
 have HA := hide (Ya hA hF)
 clear h b0 n0 s0 hI hA hF
 go_enter Try.func116, Try.ntmps116
 go_wp2_with fail
 refine hen.mono ?_
 clear hen
 rintro en w1 ⟨_, rfl, rfl, h1, k1⟩
 obtain ⟨b0, n0, s0⟩ := Qa HB0
 have hs1 := k1.size
 obtain ⟨nb, hnb⟩ : ∃ nb, w1.heap.size = nb := ⟨_, rfl⟩
 obtain ⟨w2, hw2⟩ : ∃ w2, w2 = w1.alloc (.cells #[.int .i64 0, .int .i64 0, .string ⟨#[]⟩, .slice none 0 0, .int .i64 0] 126) := ⟨_, rfl⟩
 have b2 : Below w1.heap.size w1 w2 := by rw [hw2]; exact (Below.refl _ w1).alloc (Nat.le_refl _) _
 have nb2 : w2.heap[nb]? = some (.cells #[.int .i64 0, .int .i64 0, .string ⟨#[]⟩, .slice none 0 0, .int .i64 0] 126 (0, 0)) := by rw [hw2, ← hnb]; exact heap_alloc_new w1 _
 have s2 : w2.heap.size = w1.heap.size + 1 := by rw [hw2]; simp
 have n02 : w2.heap[w.heap.size]? = some (.cells #[.int .i64 0, .int .i64 0, .string ⟨#[]⟩, .slice none 0 0, .int .i64 0] 126 (0, 0)) := (b2.block _ (by omega)).trans (k1.keep n0 (by omega))
 have h2 := h1.later b2
 have k2 : Kp rb w w2 := ((Kp.of_below b0).trans k1).trans (Kp.of_below b2)
 have hwl := Qao h2
 rw [decide_eq_true rfl] at hwl
 have hsn : w.heap.size < nb := by omega
 have HNB := hide (show nb ≠ rb ∧ w.heap.size ≠ rb ∧ nb ≠ w.heap.size by omega)
 have H2 := hide (Ya h2 (Ya k2 (Ya nb2 (Ya n02 (Ya s2 (Ya hnb hsn))))))
 have HW2 := hide hw2
 have N2 := Qdv w1 (c0 := .int .i64 0) (c1 := .int .i64 0) (c2 := .string ⟨#[]⟩) (c3 := .slice none 0 0) (c4 := .int .i64 0) (by simp [Value.oneCell'])
 clear b0 n0 s0 hs1 hsn hnb hw2 b2 nb2 s2 n02 h2 k2 h1 k1 HB0
 go_wp2_with fail
 rw [← Qa HW2, (Qa H2).2.2.2.2.2.1]
 clear HW2 N2
 have hin := Qa HI _ _ _ _ (Qa H2).1 (Qa HA).1 (Qa HA).2
 refine hwl.mono ?_
 clear hwl
 rintro en w2q ⟨rfl, rfl⟩
 go_wp2_with fail
 refine hin.mono ?_
 clear hin
 rintro en w3 ⟨_, aX, rfl, ⟨x3, ⟨_, rfl, ⟨ka, kn, kc, rfl⟩, hx3⟩, heq3⟩, h3, k3, hA3⟩
 obtain ⟨h2, k2, nb2, n02, s2, hnb, hs1⟩ := Qa H2
 obtain ⟨e1, e2, e3⟩ := Qa HNB
 have hs3 := k3.size
 have m3 := k3.keep nb2 e1
 have z3 := k3.keep n02 e2
 have S3 := Qbc (new := #[.int .i64 x3.kind, .int .i64 x3.num, str x3.txt, .slice ka kn kc, .int .i64 x3.at_]) m3 rfl rfl (by simp [Value.oneCell', str])
 obtain ⟨WX, hWX⟩ : ∃ WX, WX = w3.setRow nb #[.int .i64 x3.kind, .int .i64 x3.num, str x3.txt, .slice ka kn kc, .int .i64 x3.at_] := ⟨_, rfl⟩
 rw [← hWX] at S3
 have oX : ∀ q, q ≠ nb → WX.heap[q]? = w3.heap[q]? := fun q hq => by rw [hWX]; exact setRow_other _ _ _ _ hq
 have sX : WX.heap.size = w3.heap.size := by rw [hWX, size_setRow]
 have mX : WX.heap[nb]? = some (.cells #[.int .i64 x3.kind, .int .i64 x3.num, str x3.txt, .slice ka kn kc, .int .i64 x3.at_] 126 (0, 0)) := by rw [hWX]; exact setRow_heap _ _ _ _ _ _ m3
 have hX := h3.move (w' := WX) (by omega) (oX rb e1.symm) (oX g (by omega))
 have kX : Kp rb w WX := ⟨by rw [hWX]; exact (k2.trans k3).os, by rw [hWX]; exact (k2.trans k3).tape, by rw [hWX]; exact (k2.trans k3).output, by rw [sX]; exact (k2.trans k3).size, fun q hq hn => (oX q (by omega)).trans ((k2.trans k3).block q hq hn)⟩
 have hxX : ExS (fun b => w.heap.size ≤ b ∧ b ≠ rb ∧ b ≠ w.heap.size) WX [.int .i64 x3.kind, .int .i64 x3.num, str x3.txt, .slice ka kn kc, .int .i64 x3.at_] x3 := by
  have q1 := Qae.same _ _ WX _ _ (Qae.mono _ (fun b => w2q.heap.size ≤ b) _ _ _ hx3 (fun b _ hb => hb)) (by omega) (fun b hb hl => oX b (by omega))
  exact Qae.mono _ _ _ _ _ q1 (fun b _ hb => ⟨by omega, by omega, by omega⟩)
 have XX := hide (Ya hX (Ya kX (Ya mX (Ya ((oX _ e3.symm).trans z3) (Ya hxX (Ya heq3 hA3))))))
 obtain ⟨xX, hxe⟩ : ∃ xX, xX = x3 := ⟨_, rfl⟩
 rw [← hxe] at XX S3
 rw [← hxe]
 clear hx3 heq3 hA3 h3 k3 h2 k2 nb2 n02 s2 hnb hs1 e1 e2 e3 hs3 m3 z3 hWX oX sX mX hX kX hxX hxe H2 HI HA
 obtain ⟨h4, k4, m4, z4, hx4, hY4⟩ := Qa XX
 obtain ⟨x_0, x_1, x_2, x_3, x_4, x_5, xf⟩ := cl6 h4.box
 obtain ⟨w5, hw5⟩ : ∃ w5, w5 = WX.setCell ⟨rb, 2, none⟩ (.int .i64 (d : Int)) := ⟨_, rfl⟩
 have h5 : Rr rb g cap l w5 aX d i 0 0 := by rw [hw5]; exact h4.setD (by have := h4.dd; omega)
 have k5 : Kp rb w w5 := by rw [hw5]; exact k4.trans (Kp.set _ _ _ _)
 have o5 : ∀ q, q ≠ rb → w5.heap[q]? = WX.heap[q]? := fun q hq => by rw [hw5]; exact hpS hq
 have s5 : w5.heap.size = WX.heap.size := by rw [hw5]; simp
 obtain ⟨hnb, hn0, hne⟩ := Qa HNB
 have m5 := (o5 nb hnb).trans m4
 have z5 := (o5 w.heap.size hn0).trans z4
 have L5 := Qcf m5
 have S5 := Qbc (new := #[.int .i64 xX.kind, .int .i64 xX.num, str xX.txt, .slice ka kn kc, .int .i64 xX.at_]) z5 rfl rfl (by simp [Value.oneCell', str])
 obtain ⟨w6, hw6⟩ : ∃ w6, w6 = w5.setRow w.heap.size #[.int .i64 xX.kind, .int .i64 xX.num, str xX.txt, .slice ka kn kc, .int .i64 xX.at_] := ⟨_, rfl⟩
 rw [← hw6] at S5
 have o6 : ∀ q, q ≠ w.heap.size → w6.heap[q]? = w5.heap[q]? := fun q hq => by rw [hw6]; exact setRow_other _ _ _ _ hq
 have s6 : w6.heap.size = w5.heap.size := by rw [hw6, size_setRow]
 have z6 : w6.heap[w.heap.size]? = some (.cells #[.int .i64 xX.kind, .int .i64 xX.num, str xX.txt, .slice ka kn kc, .int .i64 xX.at_] 126 (0, 0)) := by rw [hw6]; exact setRow_heap _ _ _ _ _ _ z5
 have h6 := h5.move (w' := w6) (by omega) (o6 rb hn0.symm) (o6 g (Qa HGN))
 have k6 : Kp rb w w6 := ⟨by rw [hw6]; exact k5.os, by rw [hw6]; exact k5.tape, by rw [hw6]; exact k5.output, by rw [s6]; exact k5.size, fun q hq hn => (o6 q (by omega)).trans (k5.block q hq hn)⟩
 have hx6 : ExS (fun b => w.heap.size ≤ b) w6 [.int .i64 xX.kind, .int .i64 xX.num, str xX.txt, .slice ka kn kc, .int .i64 xX.at_] xX := by
  have q1 := Qae.same _ _ w6 _ _ hx4 (by omega) (fun b hb hl => (o6 b hb.2.2).trans (o5 b hb.2.1))
  exact Qae.mono _ _ _ _ _ q1 (fun b _ hb => hb.1)
 have HF := hide (Ya h6 (Ya k6 (Ya z6 hx6)))
 have hsb : IntKind.i64.wrap ((d : Int) + 1 - 1) = (d : Int) := by rw [show (d : Int) + 1 - 1 = (d : Int) by omega]; exact Qck d (by have := h4.dd; omega)
 have hdd := h4.dd
 clear h4 k4 m4 z4 hx4 h5 k5 o5 s5 hnb hn0 hne m5 z5 o6 s6 z6 h6 k6 hx6 hw6
 subst hw5
 go_wp2_with fail
 obtain ⟨h6, k6, z6, hx6⟩ := Qa HF
 obtain ⟨z_0, z_1, z_2, z_3, z_4, zf⟩ := ex5 z6
 refine bodyPost_ret (v := .agg #[.int .i64 xX.kind, .int .i64 xX.num, str xX.txt, .slice ka kn kc, .int .i64 xX.at_]) (by simp [results, Try.results116, go_sem, z_0, z_1, z_2, z_3, z_4]) rfl ?_
 exact ⟨_, _, rfl, ⟨xX, ⟨_, rfl, ⟨_, _, _, rfl⟩, hx6⟩, hY4.1⟩, h6, k6, hY4.2⟩
theorem Qmb {rb g cap d : Nat} {l : List Tok} (hd : d < 32) {Fol : List Tok → Prop} {K : List Tok} {x : Ex} (hI : YEa 149 rb g cap l (d + 1) #[.pointer (some ⟨rb, 0, none⟩)] Fol K x) : YE 138 rb g cap l d Fol K x := by
 intro w a i r h hA hF
 have b0 : Below w.heap.size w (w.alloc (.cells #[.int .i64 0, .int .i64 0, .string ⟨#[]⟩, .slice none 0 0, .int .i64 0] 126)) := (Below.refl _ w).alloc (Nat.le_refl _) _
 have n0 : (w.alloc (.cells #[.int .i64 0, .int .i64 0, .string ⟨#[]⟩, .slice none 0 0, .int .i64 0] 126)).heap[w.heap.size]? = some (.cells #[.int .i64 0, .int .i64 0, .string ⟨#[]⟩, .slice none 0 0, .int .i64 0] 126 (0, 0)) := heap_alloc_new w _
 have s0 : (w.alloc (.cells #[.int .i64 0, .int .i64 0, .string ⟨#[]⟩, .slice none 0 0, .int .i64 0] 126)).heap.size = w.heap.size + 1 := by simp
 have hen := Qex (h.later b0) hd
 have hrl := Qab h.box
 have hgl := h.row.lt
 have HGN := hide (show g ≠ w.heap.size by omega)
 have HB0 := hide (Ya b0 (Ya n0 s0))
 have HI := hide hI
 have HA := hide (Ya hA hF)
 clear h b0 n0 s0 hI hA hF
 go_enter Try.func138, Try.ntmps138
 go_wp2_with fail
 refine hen.mono ?_
 clear hen
 rintro en w1 ⟨_, rfl, rfl, h1, k1⟩
 obtain ⟨b0, n0, s0⟩ := Qa HB0
 have hs1 := k1.size
 obtain ⟨nb, hnb⟩ : ∃ nb, w1.heap.size = nb := ⟨_, rfl⟩
 obtain ⟨w2, hw2⟩ : ∃ w2, w2 = w1.alloc (.cells #[.int .i64 0, .int .i64 0, .string ⟨#[]⟩, .slice none 0 0, .int .i64 0] 126) := ⟨_, rfl⟩
 have b2 : Below w1.heap.size w1 w2 := by rw [hw2]; exact (Below.refl _ w1).alloc (Nat.le_refl _) _
 have nb2 : w2.heap[nb]? = some (.cells #[.int .i64 0, .int .i64 0, .string ⟨#[]⟩, .slice none 0 0, .int .i64 0] 126 (0, 0)) := by rw [hw2, ← hnb]; exact heap_alloc_new w1 _
 have s2 : w2.heap.size = w1.heap.size + 1 := by rw [hw2]; simp
 have n02 : w2.heap[w.heap.size]? = some (.cells #[.int .i64 0, .int .i64 0, .string ⟨#[]⟩, .slice none 0 0, .int .i64 0] 126 (0, 0)) := (b2.block _ (by omega)).trans (k1.keep n0 (by omega))
 have h2 := h1.later b2
 have k2 : Kp rb w w2 := ((Kp.of_below b0).trans k1).trans (Kp.of_below b2)
 have hwl := Qao h2
 rw [decide_eq_true rfl] at hwl
 have hsn : w.heap.size < nb := by omega
 have HNB := hide (show nb ≠ rb ∧ w.heap.size ≠ rb ∧ nb ≠ w.heap.size by omega)
 have H2 := hide (Ya h2 (Ya k2 (Ya nb2 (Ya n02 (Ya s2 (Ya hnb hsn))))))
 have HW2 := hide hw2
 have N2 := Qdv w1 (c0 := .int .i64 0) (c1 := .int .i64 0) (c2 := .string ⟨#[]⟩) (c3 := .slice none 0 0) (c4 := .int .i64 0) (by simp [Value.oneCell'])
 clear b0 n0 s0 hs1 hsn hnb hw2 b2 nb2 s2 n02 h2 k2 h1 k1 HB0
 go_wp2_with fail
 rw [← Qa HW2, (Qa H2).2.2.2.2.2.1]
 clear HW2 N2
 have hin := Qa HI _ _ _ _ (Qa H2).1 (Qa HA).1 (Qa HA).2
 refine hwl.mono ?_
 clear hwl
 rintro en w2q ⟨rfl, rfl⟩
 go_wp2_with fail
 refine hin.mono ?_
 clear hin
 rintro en w3 ⟨_, aX, rfl, ⟨x3, ⟨_, rfl, ⟨ka, kn, kc, rfl⟩, hx3⟩, heq3⟩, h3, k3, hA3⟩
 obtain ⟨h2, k2, nb2, n02, s2, hnb, hs1⟩ := Qa H2
 obtain ⟨e1, e2, e3⟩ := Qa HNB
 have hs3 := k3.size
 have m3 := k3.keep nb2 e1
 have z3 := k3.keep n02 e2
 have S3 := Qbc (new := #[.int .i64 x3.kind, .int .i64 x3.num, str x3.txt, .slice ka kn kc, .int .i64 x3.at_]) m3 rfl rfl (by simp [Value.oneCell', str])
 obtain ⟨WX, hWX⟩ : ∃ WX, WX = w3.setRow nb #[.int .i64 x3.kind, .int .i64 x3.num, str x3.txt, .slice ka kn kc, .int .i64 x3.at_] := ⟨_, rfl⟩
 rw [← hWX] at S3
 have oX : ∀ q, q ≠ nb → WX.heap[q]? = w3.heap[q]? := fun q hq => by rw [hWX]; exact setRow_other _ _ _ _ hq
 have sX : WX.heap.size = w3.heap.size := by rw [hWX, size_setRow]
 have mX : WX.heap[nb]? = some (.cells #[.int .i64 x3.kind, .int .i64 x3.num, str x3.txt, .slice ka kn kc, .int .i64 x3.at_] 126 (0, 0)) := by rw [hWX]; exact setRow_heap _ _ _ _ _ _ m3
 have hX := h3.move (w' := WX) (by omega) (oX rb e1.symm) (oX g (by omega))
 have kX : Kp rb w WX := ⟨by rw [hWX]; exact (k2.trans k3).os, by rw [hWX]; exact (k2.trans k3).tape, by rw [hWX]; exact (k2.trans k3).output, by rw [sX]; exact (k2.trans k3).size, fun q hq hn => (oX q (by omega)).trans ((k2.trans k3).block q hq hn)⟩
 have hxX : ExS (fun b => w.heap.size ≤ b ∧ b ≠ rb ∧ b ≠ w.heap.size) WX [.int .i64 x3.kind, .int .i64 x3.num, str x3.txt, .slice ka kn kc, .int .i64 x3.at_] x3 := by
  have q1 := Qae.same _ _ WX _ _ (Qae.mono _ (fun b => w2q.heap.size ≤ b) _ _ _ hx3 (fun b _ hb => hb)) (by omega) (fun b hb hl => oX b (by omega))
  exact Qae.mono _ _ _ _ _ q1 (fun b _ hb => ⟨by omega, by omega, by omega⟩)
 have XX := hide (Ya hX (Ya kX (Ya mX (Ya ((oX _ e3.symm).trans z3) (Ya hxX (Ya heq3 hA3))))))
 obtain ⟨xX, hxe⟩ : ∃ xX, xX = x3 := ⟨_, rfl⟩
 rw [← hxe] at XX S3
 rw [← hxe]
 clear hx3 heq3 hA3 h3 k3 h2 k2 nb2 n02 s2 hnb hs1 e1 e2 e3 hs3 m3 z3 hWX oX sX mX hX kX hxX hxe H2 HI HA
 obtain ⟨h4, k4, m4, z4, hx4, hY4⟩ := Qa XX
 obtain ⟨x_0, x_1, x_2, x_3, x_4, x_5, xf⟩ := cl6 h4.box
 obtain ⟨w5, hw5⟩ : ∃ w5, w5 = WX.setCell ⟨rb, 2, none⟩ (.int .i64 (d : Int)) := ⟨_, rfl⟩
 have h5 : Rr rb g cap l w5 aX d i 0 0 := by rw [hw5]; exact h4.setD (by have := h4.dd; omega)
 have k5 : Kp rb w w5 := by rw [hw5]; exact k4.trans (Kp.set _ _ _ _)
 have o5 : ∀ q, q ≠ rb → w5.heap[q]? = WX.heap[q]? := fun q hq => by rw [hw5]; exact hpS hq
 have s5 : w5.heap.size = WX.heap.size := by rw [hw5]; simp
 obtain ⟨hnb, hn0, hne⟩ := Qa HNB
 have m5 := (o5 nb hnb).trans m4
 have z5 := (o5 w.heap.size hn0).trans z4
 have L5 := Qcf m5
 have S5 := Qbc (new := #[.int .i64 xX.kind, .int .i64 xX.num, str xX.txt, .slice ka kn kc, .int .i64 xX.at_]) z5 rfl rfl (by simp [Value.oneCell', str])
 obtain ⟨w6, hw6⟩ : ∃ w6, w6 = w5.setRow w.heap.size #[.int .i64 xX.kind, .int .i64 xX.num, str xX.txt, .slice ka kn kc, .int .i64 xX.at_] := ⟨_, rfl⟩
 rw [← hw6] at S5
 have o6 : ∀ q, q ≠ w.heap.size → w6.heap[q]? = w5.heap[q]? := fun q hq => by rw [hw6]; exact setRow_other _ _ _ _ hq
 have s6 : w6.heap.size = w5.heap.size := by rw [hw6, size_setRow]
 have z6 : w6.heap[w.heap.size]? = some (.cells #[.int .i64 xX.kind, .int .i64 xX.num, str xX.txt, .slice ka kn kc, .int .i64 xX.at_] 126 (0, 0)) := by rw [hw6]; exact setRow_heap _ _ _ _ _ _ z5
 have h6 := h5.move (w' := w6) (by omega) (o6 rb hn0.symm) (o6 g (Qa HGN))
 have k6 : Kp rb w w6 := ⟨by rw [hw6]; exact k5.os, by rw [hw6]; exact k5.tape, by rw [hw6]; exact k5.output, by rw [s6]; exact k5.size, fun q hq hn => (o6 q (by omega)).trans (k5.block q hq hn)⟩
 have hx6 : ExS (fun b => w.heap.size ≤ b) w6 [.int .i64 xX.kind, .int .i64 xX.num, str xX.txt, .slice ka kn kc, .int .i64 xX.at_] xX := by
  have q1 := Qae.same _ _ w6 _ _ hx4 (by omega) (fun b hb hl => (o6 b hb.2.2).trans (o5 b hb.2.1))
  exact Qae.mono _ _ _ _ _ q1 (fun b _ hb => hb.1)
 have HF := hide (Ya h6 (Ya k6 (Ya z6 hx6)))
 have hsb : IntKind.i64.wrap ((d : Int) + 1 - 1) = (d : Int) := by rw [show (d : Int) + 1 - 1 = (d : Int) by omega]; exact Qck d (by have := h4.dd; omega)
 have hdd := h4.dd
 clear h4 k4 m4 z4 hx4 h5 k5 o5 s5 hnb hn0 hne m5 z5 o6 s6 z6 h6 k6 hx6 hw6
 subst hw5
 go_wp2_with fail
 obtain ⟨h6, k6, z6, hx6⟩ := Qa HF
 obtain ⟨z_0, z_1, z_2, z_3, z_4, zf⟩ := ex5 z6
 refine bodyPost_ret (v := .agg #[.int .i64 xX.kind, .int .i64 xX.num, str xX.txt, .slice ka kn kc, .int .i64 xX.at_]) (by simp [results, Try.results138, go_sem, z_0, z_1, z_2, z_3, z_4]) rfl ?_
 exact ⟨_, _, rfl, ⟨xX, ⟨_, rfl, ⟨_, _, _, rfl⟩, hx6⟩, hY4.1⟩, h6, k6, hY4.2⟩
end
section
open Go.RowKit Go.Maps
attribute [local go_sem ↓] Qbk Qbw
theorem Qqp {rb g cap d : Nat} {l : List Tok} {Fol : List Tok → Prop} {K : List Tok} {x : Ex} (hF : YE 138 rb g cap l d Fol K x) : YEa 127 rb g cap l d #[.pointer (some ⟨rb, 0, none⟩), .int .i64 2] Fol K x := by
 intro w a i r h hA hFo
 obtain ⟨W1, hW1⟩ : ∃ W1, W1 = (w.alloc (.cells #[.int .i64 0, .int .i64 0, .string ⟨#[]⟩, .slice none 0 0, .int .i64 0] 126)).alloc (.cells #[.string ⟨#[43]⟩, .string ⟨#[45]⟩] 9) := ⟨_, rfl⟩
 have b1 : Below w.heap.size w W1 := by rw [hW1]; exact ((Below.refl _ w).alloc (Nat.le_refl _) _).alloc (by simp) _
 have n1 : W1.heap[w.heap.size]? = some (.cells #[.int .i64 0, .int .i64 0, .string ⟨#[]⟩, .slice none 0 0, .int .i64 0] 126 (0, 0)) := by rw [hW1, Below.heap_alloc _ _ _ (by simp)]; exact heap_alloc_new w _
 have hcl := hF W1 a i r (h.later b1) hA hFo
 have hrl := Qab h.box
 have hgl := h.row.lt
 have s1 : W1.heap.size = w.heap.size + 2 := by rw [hW1]; simp
 have H1 := hide (Ya b1 (Ya n1 s1))
 have HW1 := hide hW1
 clear hW1 b1 n1 h hF s1 hA hFo
 go_enter Try.func127, Try.ntmps127
 go_wp2_with fail
 rw [← Qa HW1]
 clear HW1
 refine hcl.mono ?_
 clear hcl
 rintro en w1 ⟨_, a1, rfl, ⟨x1, ⟨_, rfl, ⟨ka, kn, kc, rfl⟩, hx1⟩, ha1⟩, h1, k1, hy1⟩
 obtain ⟨b1, n1, s1⟩ := Qa H1
 have hs1 := k1.size
 have z1 := k1.keep n1 (by omega)
 have S5 := Qbc (new := #[.int .i64 x1.kind, .int .i64 x1.num, str x1.txt, .slice ka kn kc, .int .i64 x1.at_]) z1 rfl rfl (by simp [Value.oneCell', str])
 obtain ⟨w6, hw6⟩ : ∃ w6, w6 = w1.setRow w.heap.size #[.int .i64 x1.kind, .int .i64 x1.num, str x1.txt, .slice ka kn kc, .int .i64 x1.at_] := ⟨_, rfl⟩
 rw [← hw6] at S5
 have o6 : ∀ q, q ≠ w.heap.size → w6.heap[q]? = w1.heap[q]? := fun q hq => by rw [hw6]; exact setRow_other _ _ _ _ hq
 have s6 : w6.heap.size = w1.heap.size := by rw [hw6, size_setRow]
 have z6 : w6.heap[w.heap.size]? = some (.cells #[.int .i64 x1.kind, .int .i64 x1.num, str x1.txt, .slice ka kn kc, .int .i64 x1.at_] 126 (0, 0)) := by rw [hw6]; exact setRow_heap _ _ _ _ _ _ z1
 have k4 := (Kp.of_below (rb := rb) b1).trans k1
 have h6 := h1.move (w' := w6) (by omega) (o6 rb (by omega)) (o6 g (by omega))
 have k6 : Kp rb w w6 := ⟨by rw [hw6]; exact k4.os, by rw [hw6]; exact k4.tape, by rw [hw6]; exact k4.output, by rw [s6]; exact k4.size, fun q hq hn => (o6 q (by omega)).trans (k4.block q hq hn)⟩
 have hx6 : ExS (fun b => w.heap.size ≤ b) w6 [.int .i64 x1.kind, .int .i64 x1.num, str x1.txt, .slice ka kn kc, .int .i64 x1.at_] x1 := by
  have q1 := Qae.same _ _ w6 _ _ hx1 (by omega) (fun b hb hl => o6 b (by omega))
  exact Qae.mono _ _ _ _ _ q1 (fun b _ hb => by omega)
 have HF := hide (Ya h6 (Ya k6 (Ya z6 (Ya hx6 (Ya ha1 hy1)))))
 clear h1 k1 hx1 ha1 hy1 b1 n1 s1 hs1 z1 hw6 o6 s6 z6 k4 h6 k6 hx6
 go_wp2_with fail
 obtain ⟨h6, k6, z6, hx6, ha1, hy1⟩ := Qa HF
 obtain ⟨z_0, z_1, z_2, z_3, z_4, zf⟩ := ex5 z6
 refine bodyPost_ret (v := .agg #[.int .i64 x1.kind, .int .i64 x1.num, str x1.txt, .slice ka kn kc, .int .i64 x1.at_]) (by simp [results, Try.results127, go_sem, z_0, z_1, z_2, z_3, z_4]) rfl ?_
 exact ⟨_, _, rfl, ⟨x1, ⟨_, rfl, ⟨_, _, _, rfl⟩, hx6⟩, ha1⟩, h6, k6, hy1⟩
end
end Go.Proofs.Ytfmbpaoapjmdnaa
