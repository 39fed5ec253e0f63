/- types: infer of a clause whose atoms hold variables alone. The document's reader where no fault is there: what its small calls answer. The document's reader where no fault is there: name, word. The document's reader by the tokens that are next. The document's reader by the tokens that are next: fields. -/
import Derived.Test.YtfmbpaoapjmdnaaQb25
import Derived.Test.YtfmbpaoapjmdnaaQb26
import Derived.Test.YtfmbpaoapjmdnaaQb09
import Derived.Test.YtfmbpaoapjmdnaaQb10
set_option maxRecDepth 100000
set_option maxHeartbeats 32000000
namespace Go.Proofs.Ytfmbpaoapjmdnaa
section
open Go.RowKit Go.Maps
section
variable {n0 n1 : Nat} {p : Pg} {c : CatP} {wb mb : Nat} {sl : Value} {vs : List Fld} {w : World}
theorem Qly (h : Wk n0 n1 p c wb mb sl vs w) (x : Ex) (hk : x.kind = 1) (xa : Option Addr) (xn xc : Nat) (hty : typV vs x.txt = none) :
  Calls Try.prog 135 #[.pointer (some ⟨wb, 0, none⟩), .agg #[.int .i64 x.kind, .int .i64 x.num, str x.txt, .slice xa xn xc, .int .i64 x.at_]] w fun en w' => en = .returned (.tuple #[.string ⟨#[]⟩, ftV (15, x.at_)]) ∧ Below w.heap.size w w' := by
 obtain ⟨w2, hw2, b2, nx, nf, s2⟩ := Qbo w #[.int .i64 x.kind, .int .i64 x.num, str x.txt, .slice xa xn xc, .int .i64 x.at_] 126
 have h2 := h.later b2
 have hop := Qfc h2 x (.slice xa xn xc) ⟨_, _, _, rfl⟩
 have ho : openP vs x = true := by unfold openP; rw [hk, hty]; rfl
 rw [ho] at hop
 obtain ⟨x_0, x_1, x_2, x_3, x_4, xf⟩ := cl5 nx
 have g1 : (x.kind == 1) = true := beq_iff_eq.2 hk
 have HW := hide hw2
 have HH := hide (Ya b2 (Ya nx (Ya nf s2)))
 clear hw2 b2 nx nf s2 h h2 ho hty hk
 go_enter Try.func135, Try.ntmps135
 go_upto_region 1 with fail
 rw [← Qa HW]
 go_wp2_with fail
 refine hop.mono ?_
 clear hop x_0 x_1 x_2 x_3 x_4 xf
 rintro en w3 ⟨rfl, b3⟩
 obtain ⟨b2, nx, nf, s2⟩ := Qa HH
 have nx3 := (b3.block _ (by omega)).trans nx
 have nf3 := (b3.block _ (by omega)).trans nf
 have b03 := b2.trans (b3.mono b2.size)
 have hwr := Qgf w3 15 x.kind x.num x.txt (.slice xa xn xc) ⟨_, _, _, rfl⟩ x.at_
 obtain ⟨x_0, x_1, x_2, x_3, x_4, xf⟩ := cl5 nx3
 have HN := hide (Ya nf3 b03)
 clear b2 nx nf s2 b3 nx3 nf3 b03 HH
 go_wp2_with fail
 refine hwr.mono ?_
 clear hwr x_0 x_1 x_2 x_3 x_4 xf
 rintro en w9 ⟨rfl, b9⟩
 obtain ⟨nf8, b08⟩ := Qa HN
 have hs8 := b08.size
 have nf9 := (b9.block _ (Qab nf8)).trans nf8
 have b09 := b08.trans (b9.mono hs8)
 obtain ⟨W7, hW7, sc⟩ := sc2 nf9 (.int .i64 15) (.int .i64 x.at_)
 obtain ⟨y_0, y_1, yf⟩ := cl2 nf9
 have HE := hide (Ya (sc.below b09 (by omega)) sc.box)
 have HWW := hide hW7
 clear nf8 b08 hs8 nf9 b09 b9 hW7 sc
 go_wp2_with fail
 rw [← Qa HWW]
 obtain ⟨z_0, z_1, zf⟩ := cl2 (Qa HE).2
 refine bodyPost_ret (v := .tuple #[.string ⟨#[]⟩, ftV (15, x.at_)]) (by simp [results, Try.results135, go_sem, z_0, z_1, ftV]) rfl ?_
 exact ⟨rfl, (Qa HE).1⟩
theorem Qim (h : Wk n0 n1 p c wb mb sl vs w) (x : Ex) (hk : x.kind = 1) (xa : Option Addr) (xn xc : Nat) (hty : typV vs x.txt = none) (t : Txt) :
  Calls Try.prog 126 #[.pointer (some ⟨wb, 0, none⟩), .agg #[.int .i64 x.kind, .int .i64 x.num, str x.txt, .slice xa xn xc, .int .i64 x.at_], str t] w fun en w' => LkA n0 n1 p c wb mb sl w (.error (15, x.at_)) en w' := by
 obtain ⟨w2, hw2, b2, nx, nf, s2⟩ := Qbo w #[.int .i64 x.kind, .int .i64 x.num, str x.txt, .slice xa xn xc, .int .i64 x.at_] 126
 have h2 := h.later b2
 have hvl := Qly h2 x hk xa xn xc hty
 obtain ⟨x_0, x_1, x_2, x_3, x_4, xf⟩ := cl5 nx
 have hn1 := h.n1le
 have HW := hide hw2
 have HH := hide (Ya b2 (Ya nx (Ya nf (Ya s2 h))))
 clear hw2 b2 nx nf s2 h h2 hk hty
 unfold ftV at hvl
 go_enter Try.func126, Try.ntmps126
 go_upto_region 1 with fail
 rw [← Qa HW]
 go_wp2_with fail
 refine hvl.mono ?_
 clear hvl x_0 x_1 x_2 x_3 x_4 xf
 rintro en w3 ⟨rfl, b3⟩
 obtain ⟨b2, nx, nf, s2, h⟩ := Qa HH
 obtain ⟨w4, hw4⟩ : ∃ w4, w4 = w3.alloc (.cells #[.int .i64 15, .int .i64 x.at_] 31) := ⟨_, rfl⟩
 have b4 := bnw hw4
 have n4 := nnw hw4
 have b24 := b3.trans (b4.mono b3.size)
 have nf4 := (b24.block _ (by omega)).trans nf
 have b04 := b2.trans (b24.mono b2.size)
 have h4 := h.later b04
 obtain ⟨k_0, k_1, kf⟩ := cl2 n4
 obtain ⟨W7, hW7, sc⟩ := sc2 nf4 (.int .i64 15) (.int .i64 x.at_)
 obtain ⟨y_0, y_1, yf⟩ := cl2 nf4
 have HE := hide (Ya (Wk.sc h4 sc (by omega) (Wk.offT h4 nf4 (by decide) (by decide))) (Ya (Kw.sc (Kw.of_below (wb := wb) (mb := mb) (sl := sl) b04) sc (by omega)) sc.box))
 have HWW := hide hW7
 have HW4 := hide hw4
 clear b2 nx nf s2 h b3 hw4 b4 n4 b24 nf4 b04 h4 hW7 sc HH
 go_upto_region 2 with fail
 rw [← Qa HW4]
 go_wp2_with fail
 rw [← Qa HWW]
 obtain ⟨z_0, z_1, zf⟩ := cl2 (Qa HE).2.2
 refine bodyPost_ret (v := ftV (15, x.at_)) (by simp [results, Try.results126, go_sem, z_0, z_1, ftV]) rfl ?_
 exact ⟨_, _, (Qa HE).1, (Qa HE).2.1, rfl, by simp⟩
end
def stN (p : Pg) (x : Ex) (t : Txt) (vs : List Fld) : Except Flt (List Fld) := narP p vs x t
def stF (p : Pg) (x : Ex) (t : Txt) (vs : List Fld) : Except Flt (List Fld) := match typV vs x.txt with
 | some own => if belowP p own t = true then .ok vs else .error (13, x.at_)
 | none => .error (15, x.at_)
theorem Qkl {p : Pg} {vs vs' : List Fld} {x : Ex} {t : Txt} (h : narP p vs x t = .ok vs') : vs'.length ≤ vs.length + 1 := by
 unfold narP at h
 split at h
 · cases h; simp
 split at h
 · cases h; omega
 split at h
 · cases h; unfold putT; simp
 · cases h
theorem stF_len {p : Pg} {vs vs' : List Fld} {x : Ex} {t : Txt} (h : stF p x t vs = .ok vs') : vs'.length ≤ vs.length + 0 := by
 unfold stF at h
 split at h
 ·
  split at h
  · cases h; omega
  · cases h
 · cases h
theorem Qcc (p : Pg) : ∀ (xs : List Ex) (fs : List Fld) (vs : List Fld), (∀ e ∈ xs, e.kind = 1) → patsP p xs fs vs = eachP (stN p) xs fs vs
 | [], fs, vs, _ => by cases fs <;> rfl
 | x :: xs, [], vs, _ => rfl
 | .mk k n s ks a :: xs, f :: fs, vs, h => by
  have hk : k = 1 := h _ List.mem_cons_self
  have e : patP p (.mk k n s ks a) f.type vs = stN p (.mk k n s ks a) f.type vs := by
   rw [patP, if_pos hk]
   rfl
  show (match patP p (.mk k n s ks a) f.type vs with | .error e => Except.error e | .ok vs' => patsP p xs fs vs') = (match stN p (.mk k n s ks a) f.type vs with | .error e => Except.error e | .ok vs' => eachP (stN p) xs fs vs')
  rw [e]
  cases stN p (.mk k n s ks a) f.type vs with
  | error e => rfl
  | ok vs' => exact Qcc p xs fs vs' (fun y hy => h y (List.mem_cons_of_mem _ hy))
theorem Qfq (p : Pg) (vs : List Fld) : ∀ (xs : List Ex) (fs : List Fld), (∀ e ∈ xs, e.kind = 1) → (match fitsP p vs xs fs with | .error e => Except.error e | .ok _ => Except.ok vs) = eachP (stF p) xs fs vs
 | [], fs, _ => by cases fs <;> rfl
 | x :: xs, [], _ => rfl
 | .mk k n s ks a :: xs, f :: fs, h => by
  have hk : k = 1 := h _ List.mem_cons_self
  have e : valP p vs (.mk k n s ks a) = (match typV vs s with | some t => .ok t | none => .error (15, a)) := by
   rw [valP, if_pos hk]
   cases typV vs s <;> rfl
  have ih := Qfq p vs xs fs (fun y hy => h y (List.mem_cons_of_mem _ hy))
  show (match (match valP p vs (.mk k n s ks a) with | .error e => Except.error e | .ok own => if ((decide (k = 2) || decide (k = 3)) && hasP p f.type own) || belowP p own f.type then fitsP p vs xs fs else Except.error (13, a)) with | .error e => Except.error e | .ok _ => Except.ok vs) = (match stF p (.mk k n s ks a) f.type vs with | .error e => Except.error e | .ok vs' => eachP (stF p) xs fs vs')
  rw [e]
  unfold stF
  show _ = (match (match typV vs s with | some own => if belowP p own f.type = true then Except.ok vs else Except.error ((13, a) : Flt) | none => Except.error ((15, a) : Flt)) with | .error e => Except.error e | .ok vs' => eachP (stF p) xs fs vs')
  cases typV vs s with
  | none => rfl
  | some own =>
   subst hk
   simp only [show decide ((1 : Int) = 2) = false from rfl, show decide ((1 : Int) = 3) = false from rfl, Bool.or_self, Bool.false_and, Bool.false_or]
   cases belowP p own f.type with
   | true => exact ih
   | false => rfl
theorem Qga (k : Nat) : ∀ xs : List Ex, szL (fun _ => k) xs = k * xs.length
 | [] => rfl
 | x :: xs => by
  show k + szL (fun _ => k) xs = k * (xs.length + 1)
  rw [Qga k xs, Nat.mul_succ]
  omega
def VAt (p : Pg) (a : Atm) : Prop := (∀ e ∈ a.args, e.kind = 1) ∧ ∃ d, declP2 p a.rel = some d ∧ a.args.length ≤ d.cols.length
structure VCs (p : Pg) (x : Cls) : Prop where
 head : VAt p x.head
 body : ∀ y ∈ x.body, y.kind = 1 ∧ VAt p y.atom
 small : ∀ j vs y, x.body[j]? = some y → litsP p (x.body.take j) [] = .ok vs → vs.length + y.atom.args.length ≤ 1000000
theorem Qho {n0 : Nat} {p : Pg} {x : Cls} (hx : VCs p x) (c : CatP) : InfC n0 p c x := by
 intro W aa ba an ac bn bc hC hA hB
 refine Qpp hC x hA hB ?_
 intro n1 wb mb W hW hA hB
 refine Qmh hW x hA hB ?_ ?_
 ·
  intro j y vs hj hl W sl' pa xa ya pn pc xn xc yn yc hW hL
  obtain ⟨hk, hv, d, hd, hle⟩ := hx.body y (List.mem_of_getElem? hj)
  have hsm := hx.small j vs y hj hl
  have hR : litP2 p y vs = eachP (stN p) y.atom.args d.cols vs := by
   unfold litP2
   rw [if_pos hk, ← Qcc p _ _ _ hv]
   unfold colsP
   rw [hd]
   rfl
  rw [hR]
  refine Qps hW y hk (fun W' bW => ?_)
  refine Qgq (hW.later bW) y.atom hd _ ⟨_, _, _, rfl⟩ (fun W2 xa2 xc2 bW2 hcols => ?_)
  have bT := bW.trans (bW2.mono bW.size)
  refine Qpk (hW.later bT) (N := 2000000) (sz := fun _ => 1) (step := stN p) ⟨?_, ?_⟩ (by rw [Qga]; omega) hle (hL.same Qae bT.size (fun q _ hl => bT.block q hl)) hcols
  ·
   intro e he w1 sl1 vs1 a1 n1' k1 t hW1 hE hN
   exact Qjp hW1 (by omega) e (hv e he) a1 n1' k1 t
  intro e t vs1 vs2 h
  exact Qkl h
 intro vs hl W sl' hW hA'
 obtain ⟨hv, d, hd, hle⟩ := hx.head
 have hR : (match fitsP p vs x.head.args (colsP p x.head) with | .error e => Except.error e | .ok _ => Except.ok vs) = eachP (stF p) x.head.args d.cols vs := by
  rw [← Qfq p vs _ _ hv]
  unfold colsP
  rw [hd]
  rfl
 have hG : ∀ R, R = eachP (stF p) x.head.args d.cols vs → Calls Try.prog 125 #[.pointer (some ⟨wb, 0, none⟩), .agg #[str x.head.rel, .slice aa an ac, .int .i64 x.head.at_], .func (.func 126) #[.pointer (some ⟨wb, 0, none⟩)] #[]] W (fun en w' => LkA n0 n1 p c wb mb sl' W R en w') := ?_
 · exact hG _ hR
 intro R hR'
 rw [hR']
 clear hR hR' R
 refine Qgq hW x.head hd _ ⟨_, _, _, rfl⟩ (fun W2 xa2 xc2 bW2 hcols => ?_)
 refine Qpj (hW.later bW2) (N := vs.length) (sz := fun _ => 0) (step := stF p) ⟨?_, ?_⟩ (by rw [Qga]; omega) hle (hA'.same Qae bW2.size (fun q _ hl => bW2.block q hl)) hcols
 ·
  intro e he w1 sl1 vs1 a1 n1' k1 t hW1 hE hN
  cases hty : typV vs1 e.txt with
  | none =>
   have := Qim hW1 e (hv e he) a1 n1' k1 hty t
   have es : stF p e t vs1 = .error (15, e.at_) := by unfold stF; rw [hty]
   rw [es]
   exact this
  | some own =>
   have := Qjk hW1 e (hv e he) a1 n1' k1 hty t
   have es : stF p e t vs1 = (if belowP p own t = true then .ok vs1 else .error (13, e.at_)) := by unfold stF; rw [hty]
   rw [es]
   exact this
 intro e t vs1 vs2 h
 exact stF_len h
end
section
open Go.RowKit Go.Maps
def XA (rb g cap : Nat) (l : List Tok) (w : World) (d : Nat) (R : World → Value → Prop) (a' i' : Nat) (en : Ending) (w' : World) : Prop :=
 ∃ v, en = .returned v ∧ R w' v ∧ Rr rb g cap l w' a' d i' 0 0 ∧ Kp rb w w'
def isSg (t : Tok) (s : Txt) : Bool := decide (t.kind = 4) && decide (t.text = s)
theorem Qgg {rb g cap a d i : Nat} {l : List Tok} {w : World} (h : Rr rb g cap l w a d i 0 0) {t : Tok} (ht : l[a]? = some t) (s : Txt) :
  Calls Try.prog 50 #[.pointer (some ⟨rb, 0, none⟩), str s] w fun en w' => en = .returned (.bool (isSg t s)) ∧ Below w.heap.size w w' := by
 have hwl := Qao h
 have hnw : ∀ w', Below w.heap.size w w' → Calls Try.prog 17 #[.pointer (some ⟨rb, 0, none⟩)] w' fun en w2 => en = .returned (.agg #[.int .i64 t.kind, str t.text, .int .i64 t.num, .int .i64 (t.at_ : Int)]) ∧ Below w'.heap.size w' w2 := fun w' hb => Qak (h.later hb) ht
 rw [decide_eq_true rfl] at hwl
 have HNW := hide hnw
 clear h ht hnw
 by_cases hk : t.kind = 4
 ·
  have gk : (t.kind == 4) = true := beq_iff_eq.2 hk
  have hcl := Qa HNW w (Below.refl _ _)
  by_cases hs : t.text = s
  ·
   have HR := hide (show isSg t s = true by unfold isSg; rw [decide_eq_true hk, decide_eq_true hs]; rfl)
   rw [hs] at hcl HNW
   clear hk hs
   go_enter Try.func50, Try.ntmps50
   go_wp2_with fail
   refine hwl.mono ?_
   clear hwl
   rintro en _ ⟨rfl, rfl⟩
   go_wp2_with fail
   refine hcl.mono ?_
   clear hcl
   rintro en w2 ⟨rfl, b2⟩
   have hcl := Qa HNW w2 b2
   have B2 := hide b2
   clear b2
   go_wp2_with fail
   rename_i hK
   refine hK _ _ ?_
   clear hK
   go_wp2_with fail
   refine hcl.mono ?_
   clear hcl
   rintro en w3 ⟨rfl, b3⟩
   have B3 := hide ((Qa B2).trans (b3.mono (Qa B2).size))
   clear b3
   go_wp2_with fail
   rename_i hK
   refine hK _ _ ?_
   clear hK
   go_wp2_with fail
   go_ret
   rw [Qa HR]
   exact ⟨by simp, Qa B3⟩
  have HR := hide (show isSg t s = false by unfold isSg; rw [decide_eq_false hs, Bool.and_false])
  have gs : (t.text == s) = false := by simpa using hs
  clear hk hs
  go_enter Try.func50, Try.ntmps50
  go_wp2_with fail
  refine hwl.mono ?_
  clear hwl
  rintro en _ ⟨rfl, rfl⟩
  go_wp2_with fail
  refine hcl.mono ?_
  clear hcl
  rintro en w2 ⟨rfl, b2⟩
  have hcl := Qa HNW w2 b2
  have B2 := hide b2
  clear b2
  go_wp2_with fail
  rename_i hK
  refine hK _ _ ?_
  clear hK
  go_wp2_with fail
  refine hcl.mono ?_
  clear hcl
  rintro en w3 ⟨rfl, b3⟩
  have B3 := hide ((Qa B2).trans (b3.mono (Qa B2).size))
  clear b3
  go_wp2_with fail
  rename_i hK
  refine hK _ _ ?_
  clear hK
  go_wp2_with fail
  go_ret
  rw [Qa HR]
  exact ⟨by simp [str], Qa B3⟩
 have gk : (t.kind == 4) = false := beq_eq_false_iff_ne.2 hk
 have HR := hide (show isSg t s = false by unfold isSg; rw [decide_eq_false hk]; rfl)
 have hcl := Qa HNW w (Below.refl _ _)
 clear hk
 go_enter Try.func50, Try.ntmps50
 go_wp2_with fail
 refine hwl.mono ?_
 clear hwl
 rintro en _ ⟨rfl, rfl⟩
 go_wp2_with fail
 refine hcl.mono ?_
 clear hcl
 rintro en w2 ⟨rfl, b2⟩
 have B2 := hide b2
 clear b2
 go_wp2_with fail
 rename_i hK
 refine hK _ _ ?_
 clear hK
 go_wp2_with fail
 go_ret
 rw [Qa HR]
 exact ⟨rfl, Qa B2⟩
theorem Qmx {t : Tok} {s : Txt} (h : isSg t s = true) : t.kind = 4 ∧ t.text = s := by
 unfold isSg at h
 simpa using h
theorem Qem {rb g cap a d i : Nat} {l : List Tok} {w : World} (h : Rr rb g cap l w a d i 0 0) {t : Tok} (ht : l[a]? = some t) (hk : t.kind ≠ 0) :
  Calls Try.prog 55 #[.pointer (some ⟨rb, 0, none⟩)] w fun en w' => XA rb g cap l w d (fun _ v => v = tkA t) (a + 1) i en w' := by
 have hm := h.more ht hk
 refine (Qau h ht).mono ?_
 rintro en w' ⟨v, a', i', y', f', h1, h2, ⟨rfl, rfl, hY⟩, h4, h5⟩
 rcases hY with ⟨_, _, rfl⟩ | ⟨_, hn⟩
 ·
  have hf := h4.z rfl
  subst hf
  exact ⟨v, h1, h2, h4, h5⟩
 · exact absurd hm (hn rfl)
theorem Qic {rb g cap a d i : Nat} {l : List Tok} {w : World} (h : Rr rb g cap l w a d i 0 0) {t : Tok} (ht : l[a]? = some t) (s : Txt) :
  Calls Try.prog 51 #[.pointer (some ⟨rb, 0, none⟩), str s] w fun en w' => XA rb g cap l w d (fun _ v => v = .bool (isSg t s)) (if isSg t s = true then a + 1 else a) i en w' := by
 have hsg := Qgg h ht s
 have H := hide (Ya h ht)
 obtain ⟨b, hb⟩ : ∃ b, isSg t s = b := ⟨_, rfl⟩
 rw [hb] at hsg ⊢
 have HB := hide hb
 clear h ht hb
 go_enter Try.func51, Try.ntmps51
 go_wp2_with fail
 refine hsg.mono ?_
 clear hsg
 rintro en w2 ⟨rfl, b2⟩
 cases b
 ·
  have H2 := hide b2
  clear b2
  go_wp2_with fail
  go_ret
  exact ⟨_, rfl, rfl, (Qa H).1.later (Qa H2), Kp.of_below (Qa H2)⟩
 have htk := Qem ((Qa H).1.later b2) (Qa H).2 (by rw [(Qmx (Qa HB)).1]; decide)
 have H2 := hide b2
 clear b2
 go_wp2_with fail
 refine htk.mono ?_
 clear htk
 rintro en w3 ⟨_, rfl, rfl, h3, k3⟩
 have H3 := hide (Ya h3 k3)
 clear h3 k3
 go_wp2_with fail
 go_ret
 exact ⟨_, rfl, rfl, (Qa H3).1, (Kp.of_below (Qa H2)).trans (Qa H3).2⟩
theorem Qoy {rb g cap a d i : Nat} {l : List Tok} {w : World} (h : Rr rb g cap l w a d i 0 0) {t : Tok} (ht : l[a]? = some t) {s : Txt} (hs : isSg t s = true) :
  Calls Try.prog 58 #[.pointer (some ⟨rb, 0, none⟩), str s] w fun en w' => XA rb g cap l w d noV (a + 1) i en w' := by
 have hmy := Qic h ht s
 rw [if_pos hs, hs] at hmy
 clear h hs
 go_enter Try.func58, Try.ntmps58
 go_wp2_with fail
 refine hmy.mono ?_
 clear hmy
 rintro en w2 ⟨_, rfl, rfl, h2, k2⟩
 have H2 := hide (Ya h2 k2)
 clear h2 k2
 go_wp2_with fail
 go_end0
 exact ⟨_, rfl, rfl, Qa H2⟩
end
section
open Go.RowKit Go.Maps
theorem Qje {rb g cap a d i : Nat} {l : List Tok} {w : World} (h : Rr rb g cap l w a d i 0 0) {t : Tok} (ht : l[a]? = some t) (hk : t.kind = 1) :
  Calls Try.prog 59 #[.pointer (some ⟨rb, 0, none⟩)] w fun en w' => XA rb g cap l w d (fun _ v => v = str t.text) (a + 1) i en w' := by
 have hnw := Qak h ht
 unfold tkA at hnw
 have H := hide (Ya h (Ya ht hk))
 have gk : (t.kind != 1) = false := by simpa using hk
 clear h ht hk
 go_enter Try.func59, Try.ntmps59
 go_wp2_with fail
 refine hnw.mono ?_
 clear hnw
 rintro en w2 ⟨rfl, b2⟩
 have h2 := (Qa H).1.later b2
 have htk := Qem h2 (Qa H).2.1 (by rw [(Qa H).2.2]; decide)
 unfold tkA at htk
 have H2 := hide b2
 clear h2 b2
 go_wp2_with fail
 rename_i hK
 refine hK _ _ ?_
 clear hK
 go_wp2_with fail
 refine htk.mono ?_
 clear htk
 rintro en w3 ⟨_, rfl, rfl, h3, k3⟩
 have H3 := hide (Ya h3 k3)
 clear h3 k3
 go_wp2_with fail
 rename_i hK
 refine hK _ _ ?_
 clear hK
 go_wp2_with fail
 go_ret
 exact ⟨_, rfl, rfl, (Qa H3).1, (Kp.of_below (Qa H2)).trans (Qa H3).2⟩
theorem Qjf {rb g cap a d i : Nat} {l : List Tok} {w : World} (h : Rr rb g cap l w a d i 0 0) {t : Tok} (ht : l[a]? = some t) (hk : t.kind = 1) (hw : wordP t.text = true) (h95 : t.text ≠ [95]) :
  Calls Try.prog 57 #[.pointer (some ⟨rb, 0, none⟩)] w fun en w' => XA rb g cap l w d (fun _ v => v = str t.text) (a + 1) i en w' := by
 have hnw : ∀ w', Below w.heap.size w w' → Calls Try.prog 17 #[.pointer (some ⟨rb, 0, none⟩)] w' fun en w2 => en = .returned (.agg #[.int .i64 t.kind, str t.text, .int .i64 t.num, .int .i64 (t.at_ : Int)]) ∧ Below w'.heap.size w' w2 := fun w' hb => Qak (h.later hb) ht
 have hsz : (⟨t.text.toArray⟩ : ByteArray).size ≤ 140737488355328 := by
  have := h.tx t (List.mem_of_getElem? ht)
  have e : (⟨t.text.toArray⟩ : ByteArray).size = t.text.length := by simp [ByteArray.size]
  omega
 have hwd : ∀ w', Calls Try.prog 91 #[str t.text] w' fun e w2 => e = .returned (.bool true) ∧ w2 = w' := fun w' => by
  have := Qit ⟨t.text.toArray⟩ hsz w'
  simpa [str, hw] using this
 have gb : (t.text == [95]) = false := by simpa using h95
 have HNW := hide hnw
 have HWD := hide hwd
 have H := hide (Ya h (Ya ht hk))
 have gk : (t.kind != 1) = false := by simpa using hk
 have hcl := Qa HNW w (Below.refl _ _)
 clear h ht hnw hwd hsz hk hw
 go_enter Try.func57, Try.ntmps57
 go_wp2_with fail
 refine hcl.mono ?_
 clear hcl
 rintro en w2 ⟨rfl, b2⟩
 have hcl := Qa HNW w2 b2
 have B2 := hide (b2)
 clear b2
 go_wp2_with fail
 rename_i hK
 refine hK _ _ ?_
 clear hK
 go_wp2_with fail
 refine hcl.mono ?_
 clear hcl
 rintro en w3 ⟨rfl, b3⟩
 have B3 := hide ((Qa B2).trans (b3.mono (Qa B2).size))
 clear b3
 have hcw := Qa HWD w3
 go_wp2_with fail
 rename_i hK
 refine hK _ _ ?_
 clear hK
 go_wp2_with fail
 refine hcw.mono ?_
 clear hcw
 rintro en w3q ⟨rfl, rfl⟩
 have hcl := Qa HNW w3q (Qa B3)
 go_wp2_with fail
 refine hcl.mono ?_
 clear hcl
 rintro en w4 ⟨rfl, b4⟩
 have B4 := hide ((Qa B3).trans (b4.mono (Qa B3).size))
 clear b4
 have htk := Qem ((Qa H).1.later (Qa B4)) (Qa H).2.1 (by rw [(Qa H).2.2]; decide)
 unfold tkA at htk
 go_wp2_with fail
 rename_i hK
 refine hK _ _ ?_
 clear hK
 go_wp2_with fail
 refine htk.mono ?_
 clear htk
 rintro en w5 ⟨_, rfl, rfl, h5, k5⟩
 have H5 := hide (Ya h5 k5)
 clear h5 k5
 go_wp2_with fail
 rename_i hK
 refine hK _ _ ?_
 clear hK
 go_wp2_with fail
 go_ret
 exact ⟨_, rfl, rfl, (Qa H5).1, (Kp.of_below (Qa B4)).trans (Qa H5).2⟩
end
section
open Go.RowKit Go.Maps
def zk (t : Tok) : Int × Txt × Int := (t.kind, t.text, t.num)
def Nxt (l : List Tok) (a : Nat) (ks : List Tok) : Prop := (l.drop a).map zk = ks.map zk
theorem Nxt.at {l : List Tok} {a : Nat} {t0 : Tok} {ks : List Tok} (h : Nxt l a (t0 :: ks)) : ∃ t, l[a]? = some t ∧ zk t = zk t0 ∧ Nxt l (a + 1) ks := by
 unfold Nxt at h
 cases hd : l.drop a with
 | nil => rw [hd] at h; simp at h
 | cons t m =>
  rw [hd, List.map_cons, List.map_cons, List.cons.injEq] at h
  have ha : l[a]? = some t := by rw [← List.head?_drop, hd]; rfl
  refine ⟨t, ha, h.1, ?_⟩
  unfold Nxt
  rw [← List.drop_drop, hd]
  exact h.2
def sgQ (s : Txt) : Tok := ⟨4, s, 0, 0⟩
def nmR (s : Txt) : Tok := ⟨1, s, 0, 0⟩
theorem Qfs {t t0 : Tok} (h : zk t = zk t0) (s : Txt) : isSg t s = isSg t0 s := by
 unfold zk at h
 simp only [Prod.mk.injEq] at h
 unfold isSg
 rw [h.1, h.2.1]
def XB (rb g cap : Nat) (l : List Tok) (w : World) (d : Nat) (R : World → Value → Prop) (rest : List Tok) (i' : Nat) (en : Ending) (w' : World) : Prop :=
 ∃ v a', en = .returned v ∧ R w' v ∧ Rr rb g cap l w' a' d i' 0 0 ∧ Kp rb w w' ∧ Nxt l a' rest
section
variable {rb g cap a d i : Nat} {l : List Tok} {w : World}
theorem Qbe (h : Rr rb g cap l w a d i 0 0) {t0 : Tok} {ks : List Tok} (hA : Nxt l a (t0 :: ks)) (s : Txt) :
  Calls Try.prog 50 #[.pointer (some ⟨rb, 0, none⟩), str s] w fun en w' => en = .returned (.bool (isSg t0 s)) ∧ Below w.heap.size w w' := by
 obtain ⟨t, ht, hz, _⟩ := hA.at
 rw [← Qfs hz s]
 exact Qgg h ht s
theorem Qcu (h : Rr rb g cap l w a d i 0 0) {s : Txt} {ks : List Tok} (hA : Nxt l a (sgQ s :: ks)) :
  Calls Try.prog 51 #[.pointer (some ⟨rb, 0, none⟩), str s] w fun en w' => XB rb g cap l w d (fun _ v => v = .bool true) ks i en w' := by
 obtain ⟨t, ht, hz, hn⟩ := hA.at
 have e : isSg t s = true := by rw [Qfs hz s]; simp [isSg, sgQ]
 refine (Qic h ht s).mono ?_
 rintro en w' ⟨v, h1, h2, h3, h4⟩
 rw [if_pos e] at h3
 rw [e] at h2
 exact ⟨v, _, h1, h2, h3, h4, hn⟩
theorem Qch (h : Rr rb g cap l w a d i 0 0) {s : Txt} {t0 : Tok} {ks : List Tok} (hA : Nxt l a (t0 :: ks)) (h0 : isSg t0 s = false) :
  Calls Try.prog 51 #[.pointer (some ⟨rb, 0, none⟩), str s] w fun en w' => XB rb g cap l w d (fun _ v => v = .bool false) (t0 :: ks) i en w' := by
 obtain ⟨t, ht, hz, _⟩ := hA.at
 have e : isSg t s = false := by rw [Qfs hz s, h0]
 refine (Qic h ht s).mono ?_
 rintro en w' ⟨v, h1, h2, h3, h4⟩
 rw [if_neg (by rw [e]; simp)] at h3
 rw [e] at h2
 exact ⟨v, _, h1, h2, h3, h4, hA⟩
theorem Qcp (h : Rr rb g cap l w a d i 0 0) {s : Txt} {ks : List Tok} (hA : Nxt l a (sgQ s :: ks)) :
  Calls Try.prog 58 #[.pointer (some ⟨rb, 0, none⟩), str s] w fun en w' => XB rb g cap l w d noV ks i en w' := by
 obtain ⟨t, ht, hz, hn⟩ := hA.at
 have e : isSg t s = true := by rw [Qfs hz s]; simp [isSg, sgQ]
 refine (Qoy h ht e).mono ?_
 rintro en w' ⟨v, h1, h2, h3, h4⟩
 exact ⟨v, _, h1, h2, h3, h4, hn⟩
theorem Qgi (h : Rr rb g cap l w a d i 0 0) {s : Txt} {ks : List Tok} (hA : Nxt l a (nmR s :: ks)) :
  Calls Try.prog 59 #[.pointer (some ⟨rb, 0, none⟩)] w fun en w' => XB rb g cap l w d (fun _ v => v = str s) ks i en w' := by
 obtain ⟨t, ht, hz, hn⟩ := hA.at
 simp only [zk, nmR, Prod.mk.injEq] at hz
 refine (Qje h ht hz.1).mono ?_
 rintro en w' ⟨v, h1, h2, h3, h4⟩
 rw [hz.2.1] at h2
 exact ⟨v, _, h1, h2, h3, h4, hn⟩
theorem Qen (h : Rr rb g cap l w a d i 0 0) {s : Txt} {ks : List Tok} (hA : Nxt l a (nmR s :: ks)) (hw : wordP s = true) (h95 : s ≠ [95]) :
  Calls Try.prog 57 #[.pointer (some ⟨rb, 0, none⟩)] w fun en w' => XB rb g cap l w d (fun _ v => v = str s) ks i en w' := by
 obtain ⟨t, ht, hz, hn⟩ := hA.at
 simp only [zk, nmR, Prod.mk.injEq] at hz
 refine (Qjf h ht hz.1 (by rw [hz.2.1]; exact hw) (by rw [hz.2.1]; exact h95)).mono ?_
 rintro en w' ⟨v, h1, h2, h3, h4⟩
 rw [hz.2.1] at h2
 exact ⟨v, _, h1, h2, h3, h4, hn⟩
theorem Qgj (h : Rr rb g cap l w a d i 0 0) {t0 : Tok} {ks : List Tok} (hA : Nxt l a (t0 :: ks)) (hk : t0.kind ≠ 0) :
  Calls Try.prog 55 #[.pointer (some ⟨rb, 0, none⟩)] w fun en w' => XB rb g cap l w d (fun _ v => ∃ at_ : Nat, v = .agg #[.int .i64 t0.kind, str t0.text, .int .i64 t0.num, .int .i64 (at_ : Int)]) ks i en w' := by
 obtain ⟨t, ht, hz, hn⟩ := hA.at
 simp only [zk, Prod.mk.injEq] at hz
 refine (Qem h ht (by rw [hz.1]; exact hk)).mono ?_
 rintro en w' ⟨v, h1, h2, h3, h4⟩
 refine ⟨v, _, h1, ⟨t.at_, ?_⟩, h3, h4, hn⟩
 rw [h2, tkA, hz.1, hz.2.1, hz.2.2]
end
end
section
open Go.RowKit Go.Maps
def fdQ (f : Fld) : List Tok := [nmR f.name, sgQ [58], nmR f.type]
def joinQ : List (List Tok) → List Tok
 | [] => []
 | t :: ts => t ++ ts.flatMap (sgQ [44] :: ·)
def leftQ {α : Type} (K : α → List Tok) (xs : List α) (j : Nat) : List Tok := if j = 0 then joinQ (xs.map K) else ((xs.drop j).map K).flatMap (sgQ [44] :: ·)
theorem Qcn {α : Type} (K : α → List Tok) (xs : List α) : leftQ K xs xs.length = [] := by
 unfold leftQ
 split
 · rename_i h; rw [List.length_eq_zero_iff.1 h]; rfl
 · rw [List.drop_length]; rfl
theorem Qes {α : Type} (K : α → List Tok) {xs : List α} {x : α} (h : xs[0]? = some x) : leftQ K xs 0 = K x ++ leftQ K xs 1 := by
 cases xs with
 | nil => cases h
 | cons y ys => cases h; simp [leftQ, joinQ]
theorem Qcy {α : Type} (K : α → List Tok) {xs : List α} {j : Nat} {x : α} (hj : j ≠ 0) (h : xs[j]? = some x) : leftQ K xs j = sgQ [44] :: (K x ++ leftQ K xs (j + 1)) := by
 unfold leftQ
 rw [if_neg hj, if_neg (by omega), List.drop_eq_getElem_cons (List.getElem?_eq_some_iff.1 h).1]
 have e := (List.getElem?_eq_some_iff.1 h).2
 rw [e]
 simp
def lenV (v : Value) : Nat := match v with | .slice _ n _ => n | _ => 0
theorem Qk {rb g cap a d i : Nat} {l : List Tok} {w : World} (h : Rr rb g cap l w a d i 0 0) {so se : Txt} (he : se ≠ [44]) {xs : List Fld} (hx : ∀ f ∈ xs, wordP f.name = true ∧ f.name ≠ [95]) (hm : xs.length ≤ 8) {rest : List Tok} (hA : Nxt l a (sgQ so :: (joinQ (xs.map fdQ) ++ sgQ se :: rest))) :
  Calls Try.prog 89 #[.pointer (some ⟨rb, 0, none⟩), str so, str se] w fun en w' => XB rb g cap l w d (fun w' v => LsAt PF 2 (fun b => w.heap.size ≤ b) w' v xs) rest i en w' := by
 have hms := Qcp h hA
 have HRB := hide (Ya (Qab h.box) h.row.lt)
 have HX := hide (Ya hx he)
 obtain ⟨n, hn⟩ : ∃ n, xs.length = n := ⟨_, rfl⟩
 have HN := hide hn
 rw [hn] at hm
 clear h hA hx he hn
 go_enter Try.func89, Try.ntmps89
 go_wp2_with fail
 refine hms.mono ?_
 clear hms
 rintro en w1 ⟨_, a0, rfl, rfl, h0, k0, hA0⟩
 have H0 := hide (Ya h0 (Ya k0 hA0))
 clear h0 k0 hA0
 go_wp2_with fail
 go_loopw [7, 8] (fun sl fb wr => ∃ (j a1 : Nat) (fst : Bool) (sa : Option Addr) (sc : Nat), sl = .slice sa j sc ∧ fb = .bool fst ∧ j ≤ n ∧ j ≤ sc ∧ sc ≤ maxLen ∧ Hid (Qown PF 2 103 w wr (.slice sa j sc) (xs.take j) ∧ Rr rb g cap l wr a1 d i 0 0 ∧ Kp rb w wr ∧ Nxt l a1 (leftQ fdQ xs j ++ sgQ se :: rest) ∧ fst = decide (j = 0))) (fun sl _ _ => n + 1 - lenV sl)
 case atStart =>
  obtain ⟨h0, k0, hA0⟩ := Qa H0
  exact ⟨0, a0, true, none, 0, rfl, rfl, Nat.zero_le _, Nat.le_refl _, by unfold maxLen; omega, hide ⟨Qown.nil _ _, h0, k0, hA0, rfl⟩⟩
 obtain ⟨j, a1, fst, sa, sc, rfl, rfl, hj, hc1, hc2, HI⟩ := hrel
 unfold maxLen at hc2
 clear H0
 go_upto_region 4 with fail
 go_cut [31] from 13 to 48 (fun c wc => ∃ (aX : Nat), c = .bool (decide (j < n)) ∧ Hid (Qown PF 2 103 w wc (.slice sa j sc) (xs.take j) ∧ Rr rb g cap l wc aX d i 0 0 ∧ Kp rb w wc ∧ (j < n → ∃ x, xs[j]? = some x ∧ Nxt l aX (fdQ x ++ (leftQ fdQ xs (j + 1) ++ sgQ se :: rest))) ∧ (¬ j < n → Nxt l aX (sgQ se :: rest))))
 case first =>
  have hwl := Qao (Qa HI).2.1
  rw [decide_eq_true rfl] at hwl
  cases fst
  ·
   have h0 : j ≠ 0 := by simpa using (Qa HI).2.2.2.2.symm
   by_cases hlt : j < n
   ·
    obtain ⟨x, hxj⟩ : ∃ x, xs[j]? = some x := ⟨xs[j]'(by rw [Qa HN]; exact hlt), List.getElem?_eq_getElem _⟩
    have hq := (Qa HI).2.2.2.1
    rw [Qcy fdQ h0 hxj] at hq
    simp only [List.cons_append, List.append_assoc] at hq
    have hmy := Qcu (Qa HI).2.1 hq
    have HXJ := hide hxj
    clear hq hxj h0
    go_wp2_with fail
    refine hwl.mono ?_
    clear hwl
    rintro en wq ⟨rfl, rfl⟩
    go_wp2_with fail
    refine hmy.mono ?_
    clear hmy
    rintro en WX ⟨_, aX, rfl, rfl, h2, k2, hq⟩
    have X2 := hide (Ya ((Qa HI).1.kp Qaz k2 (Qa HRB).1) (Ya h2 (Ya ((Qa HI).2.2.1.trans k2) hq)))
    clear h2 k2 hq
    go_wp2_with fail
    go_meet
    obtain ⟨h1, h2, h3, hq⟩ := Qa X2
    exact ⟨aX, by rw [decide_eq_true hlt], hide ⟨h1, h2, h3, fun _ => ⟨x, Qa HXJ, hq⟩, fun e => absurd hlt e⟩⟩
   have hq := (Qa HI).2.2.2.1
   rw [show leftQ fdQ xs j = [] by rw [show j = n by omega, ← Qa HN, Qcn], List.nil_append] at hq
   have hmy := Qch (s := [44]) (Qa HI).2.1 hq (by unfold isSg; rw [decide_eq_false (show ¬ (sgQ se).text = [44] from (Qa HX).2), Bool.and_false])
   clear hq h0
   go_wp2_with fail
   refine hwl.mono ?_
   clear hwl
   rintro en wq ⟨rfl, rfl⟩
   go_wp2_with fail
   refine hmy.mono ?_
   clear hmy
   rintro en WX ⟨_, aX, rfl, rfl, h2, k2, hq⟩
   have X2 := hide (Ya ((Qa HI).1.kp Qaz k2 (Qa HRB).1) (Ya h2 (Ya ((Qa HI).2.2.1.trans k2) hq)))
   clear h2 k2 hq
   go_wp2_with fail
   go_meet
   obtain ⟨h1, h2, h3, hq⟩ := Qa X2
   exact ⟨aX, by rw [decide_eq_false hlt], hide ⟨h1, h2, h3, fun e => absurd e hlt, fun _ => hq⟩⟩
  have h0 : j = 0 := by simpa using (Qa HI).2.2.2.2.symm
  by_cases hlt : j < n
  ·
   obtain ⟨x, hxj⟩ : ∃ x, xs[j]? = some x := ⟨xs[j]'(by rw [Qa HN]; exact hlt), List.getElem?_eq_getElem _⟩
   have hq := (Qa HI).2.2.2.1
   rw [show leftQ fdQ xs j = fdQ x ++ leftQ fdQ xs (j + 1) by rw [h0] at hxj ⊢; exact Qes fdQ hxj, List.append_assoc] at hq
   have hsg := Qbe (Qa HI).2.1 (show Nxt l a1 (nmR x.name :: _) from hq) se
   rw [show isSg (nmR x.name) se = false from rfl] at hsg
   have HQ := hide (Ya hq hxj)
   clear hq hxj h0
   go_wp2_with fail
   refine hwl.mono ?_
   clear hwl
   rintro en wq ⟨rfl, rfl⟩
   go_wp2_with fail
   refine hsg.mono ?_
   clear hsg
   rintro en WX ⟨rfl, b2⟩
   have X2 := hide (Ya ((Qa HI).1.kp Qaz (Kp.of_below (rb := rb) b2) (Qa HRB).1) (Ya ((Qa HI).2.1.later b2) ((Qa HI).2.2.1.trans (Kp.of_below b2))))
   clear b2
   go_wp2_with fail
   go_meet
   obtain ⟨h1, h2, h3⟩ := Qa X2
   exact ⟨a1, by rw [decide_eq_true hlt], hide ⟨h1, h2, h3, fun _ => ⟨x, (Qa HQ).2, (Qa HQ).1⟩, fun e => absurd hlt e⟩⟩
  have hq := (Qa HI).2.2.2.1
  rw [show leftQ fdQ xs j = [] by rw [show j = n by omega, ← Qa HN, Qcn], List.nil_append] at hq
  have hsg := Qbe (Qa HI).2.1 hq se
  rw [show isSg (sgQ se) se = true by simp [isSg, sgQ]] at hsg
  have HQ := hide hq
  clear hq h0
  go_wp2_with fail
  refine hwl.mono ?_
  clear hwl
  rintro en wq ⟨rfl, rfl⟩
  go_wp2_with fail
  refine hsg.mono ?_
  clear hsg
  rintro en WX ⟨rfl, b2⟩
  have X2 := hide (Ya ((Qa HI).1.kp Qaz (Kp.of_below (rb := rb) b2) (Qa HRB).1) (Ya ((Qa HI).2.1.later b2) ((Qa HI).2.2.1.trans (Kp.of_below b2))))
  clear b2
  go_wp2_with fail
  go_meet
  obtain ⟨h1, h2, h3⟩ := Qa X2
  exact ⟨a1, by rw [decide_eq_false hlt], hide ⟨h1, h2, h3, fun e => absurd e hlt, fun _ => Qa HQ⟩⟩
 obtain ⟨aX, rfl, X0⟩ := hcut
 by_cases hlt : j < n
 ·
  rw [decide_eq_true hlt]
  obtain ⟨hq, hX, kX, hA1, _⟩ := Qa X0
  obtain ⟨x, hxj, hA⟩ := hA1 hlt
  have hwx := (Qa HX).1 x (List.mem_of_getElem? hxj)
  have hwd := Qen hX (show Nxt l aX (nmR x.name :: _) from hA) hwx.1 hwx.2
  have htk : xs.take (j + 1) = xs.take j ++ [x] := by rw [List.take_add_one, hxj]; rfl
  have g8 : ¬ ((8 : Int) ≤ (j : Int)) := by omega
  have XF := hide (Ya hq (Ya kX htk))
  have HTL := hide (show (xs.take j).length = j by rw [List.length_take, Qa HN]; omega)
  obtain ⟨WX, hWX⟩ : ∃ WX, WX = wc := ⟨_, rfl⟩
  subst hWX
  clear hq hX kX hA1 hxj hA hwx htk X0
  go_wp2_with fail
  refine hwd.mono ?_
  clear hwd
  rintro en w4 ⟨_, a4, rfl, rfl, h4, k4, n4⟩
  obtain ⟨W5, hW5⟩ : ∃ W5, W5 = w4.alloc (.cells #[str x.name, .string ⟨#[]⟩] 103) := ⟨_, rfl⟩
  have b5 : Below w4.heap.size w4 W5 := bnw hW5
  have n5 : W5.heap[w4.heap.size]? = some (.cells #[str x.name, .string ⟨#[]⟩] 103 (0, 0)) := nnw hW5
  have hms := Qcp (h4.later b5) n4
  obtain ⟨kb, hkb⟩ : ∃ kb, w4.heap.size = kb := ⟨_, rfl⟩
  have H4 := hide (Ya k4 (Ya b5 (Ya n5 hkb)))
  have HW5 := hide hW5
  clear h4 k4 b5 n5 hW5 hkb n4
  go_wp2_with fail
  rw [← Qa HW5, (Qa H4).2.2.2]
  clear HW5
  refine hms.mono ?_
  clear hms
  rintro en w6 ⟨_, a6, rfl, rfl, h6, k6, n6⟩
  have hnm := Qgi h6 n6
  have H6 := hide k6
  clear h6 k6 n6
  go_wp2_with fail
  refine hnm.mono ?_
  clear hnm
  rintro en w7 ⟨_, a7, rfl, rfl, h7, k7, n7x⟩
  obtain ⟨k4, b5, n5, hkb⟩ := Qa H4
  have k6 := Qa H6
  obtain ⟨hq, kX, htk⟩ := Qa XF
  have hs4 := k4.size
  have hsX := kX.size
  have hs5 := b5.size
  have hs6 := k6.size
  have hs7 := k7.size
  rw [hkb] at n5
  have hkr : kb ≠ rb := by have := (Qa HRB).1; omega
  have hkg : kb ≠ g := by have := (Qa HRB).2; omega
  have n7 : w7.heap[kb]? = some (.cells #[str x.name, .string ⟨#[]⟩] 103 (0, 0)) := k7.keep (k6.keep n5 hkr) hkr
  obtain ⟨w8, hw8⟩ : ∃ w8, w8 = w7.setCell ⟨kb, 1, none⟩ (str x.type) := ⟨_, rfl⟩
  have n8 : w8.heap[kb]? = some (.cells #[str x.name, str x.type] 103 (0, 0)) := by rw [hw8]; exact (Qah n7 1 _).trans rfl
  have s8 : w8.heap.size = w7.heap.size := by rw [hw8]; simp
  have o8 : ∀ q, q ≠ kb → w8.heap[q]? = w7.heap[q]? := fun q hq => by rw [hw8]; exact hpS hq
  have h8 := h7.move (w' := w8) (by omega) (o8 rb hkr.symm) (o8 g hkg.symm)
  have kX8 : Kp rb WX w8 := by
   have kk := ((k4.trans (Kp.of_below b5)).trans k6).trans k7
   refine ⟨by rw [hw8]; exact kk.os, by rw [hw8]; exact kk.tape, by rw [hw8]; exact kk.output, by rw [s8]; exact kk.size, fun q hq hn => (o8 q (by omega)).trans (kk.block q hq hn)⟩
  obtain ⟨i0, hi, hz, hsz, hby⟩ := infoF
  obtain ⟨r, wz, hrun, kpz, rdz, hown⟩ := hq.more Qaz (by kernel_rfl : Try.prog.underlying 41 = some (.slice 103)) hi hz hsz hby rfl (by decide) (by decide) kX (x := x) (cs := [str x.name, str x.type]) rfl (by simp [Value.oneCell', str]) rfl h8 kX8 (Qa HRB).1 (Qa HRB).2 (by rw [Qa HTL]; omega)
  obtain ⟨ra, rc, er, hr1, hr2⟩ := hown.sl
  subst er
  rw [hw8] at hrun
  rw [show (w7.setCell ⟨kb, 1, none⟩ (str x.type)).heap.size = w7.heap.size by simp] at hrun
  have HRUN := hide hrun
  obtain ⟨x_0, x_1, xf⟩ := cl2 n7
  obtain ⟨z_0, z_1, zf⟩ := cl2 n8
  rw [hw8] at z_0 z_1
  rw [← htk] at hown hr1
  have htl2 : (xs.take (j + 1)).length = j + 1 := by rw [List.length_take, Qa HN]; omega
  have HE := hide (Ya hown (Ya rdz (Ya kpz (Ya hr1 (Ya hr2 (Ya n7x (Ya htl2 htk)))))))
  clear k4 b5 n5 hkb k6 h7 k7 hq kX htk hs4 hsX hs5 hs6 hs7 hkr hkg n7 hw8 n8 s8 o8 h8 kX8 hi hz hsz hby hrun kpz rdz hown hr1 hr2 zf n7x htl2
  go_wp2_with (at_builtin; refine Qaj _ rfl _ _ 41 rfl _ _ rfl rfl _ _ (Qa HRUN) ?_; clear HRUN)
  go_roundw
  case rel =>
   obtain ⟨hown, rdz, kpz, hr1, hr2, n7x, htl2, htk⟩ := Qa HE
   refine ⟨j + 1, _, false, ra, rc, by have := Qa HN; congr 1; omega, rfl, by omega, by omega, hr2, hide ⟨?_, rdz, kpz, n7x, by simp⟩⟩
   rw [htl2] at hown
   exact hown
  have := Qa HN
  simp [lenV]
  omega
 rw [decide_eq_false hlt]
 obtain ⟨hq, hX, kX, _, hA1⟩ := Qa X0
 have hms := Qcp hX (hA1 hlt)
 have X2 := hide (Ya hq kX)
 have ej : j = n := by omega
 have HE := hide (show xs.take j = xs by rw [ej, ← Qa HN]; exact List.take_length)
 clear hq hX kX hA1 X0 ej
 go_wp2_with fail
 refine hms.mono ?_
 clear hms
 rintro en w9 ⟨_, a9, rfl, rfl, h9, k9, n9⟩
 have HZ := hide (Ya h9 (Ya k9 n9))
 clear h9 k9 n9
 go_wp2_with fail
 go_ret
 obtain ⟨h9, k9, n9⟩ := Qa HZ
 obtain ⟨hq, kX⟩ := Qa X2
 rw [Qa HE] at hq
 exact ⟨_, _, rfl, (hq.kp Qaz k9 (Qa HRB).1).ls Qaz, h9, kX.trans k9, n9⟩
end
end Go.Proofs.Ytfmbpaoapjmdnaa
