/- syn: expressions in memory; an operator. syn: operator. syn: a row of operands with operators between. syn: an expression stored; term. syn: expr. -/
import Derived.Test.YtdjehbdpcdikkaaGreatDoorMt11
namespace Go.Proofs.YtdjehbdpcdikkaaGreatDoor
open Go.RowKit Go.Maps

/-- The five cells of an expression; S: the blocks where its kids lie. -/
inductive ExS (S : Nat → Prop) (w : World) : List Value → Ex → Prop
 | mk (k n : Int) (s : Txt) (kids : List Ex) (a : Int) (ao : Option Addr) (cap : Nat) (css : List (List Value)) (h1 : kids.length ≤ cap) (h2 : cap ≤ maxLen) (h3 : css.length = kids.length) (h6 : ∀ (j : Nat) (cs : List Value), css[j]? = some cs → cs.length = 5) (h4 : ∀ (j : Nat) (x : Ex) (cs : List Value), kids[j]? = some x → css[j]? = some cs → ExS S w cs x)
   (h5 : kids ≠ [] → ∃ b, ao = some ⟨b, 0, none⟩ ∧ S b ∧ b < w.heap.size ∧ ∀ j c, css.flatten[j]? = some c → w.cell? ⟨b, j, none⟩ = some c) :
   ExS S w [.int .i64 k, .int .i64 n, str s, .slice ao kids.length cap, .int .i64 a] (.mk k n s kids a)
theorem exS_ok : PSok (α := Ex) (fun S w cs x => ExS S w cs x) where
 mono := fun S S' w cs x h hS => by
  induction h with
  | mk k n s kids a ao cap css h1 h2 h3 h6 h4 h5 ih =>
   refine .mk k n s kids a ao cap css h1 h2 h3 h6 ih (fun hn => ?_)
   obtain ⟨b, e1, e2, e3, e4⟩ := h5 hn
   exact ⟨b, e1, hS b e3 e2, e3, e4⟩
 same := fun S w w' cs x h hs hb => by
  induction h with
  | mk k n s kids a ao cap css h1 h2 h3 h6 h4 h5 ih =>
   refine .mk k n s kids a ao cap css h1 h2 h3 h6 ih (fun hn => ?_)
   obtain ⟨b, e1, e2, e3, e4⟩ := h5 hn
   refine ⟨b, e1, e2, by omega, fun j c hj => ?_⟩
   have := e4 j c hj
   simp only [World.cell?] at this ⊢
   rw [hb b e2 e3]; exact this
abbrev PE : PS Ex := fun S w cs x => ExS S w cs x
/-- An expression of kids that lie there. -/
theorem exS_of {S : Nat → Prop} {w : World} {k n a : Int} {s : Txt} {kids : List Ex} {v : Value} (h : LsAt PE 5 S w v kids) : ExS S w [.int .i64 k, .int .i64 n, str s, v, .int .i64 a] (.mk k n s kids a) := by
 obtain ⟨ao, cap, css, rfl, h2, h3, h4, h5⟩ := h
 refine .mk k n s kids a ao cap css h2 h3 h4.1 (fun j cs hc => ?_) (fun j x cs g1 g2 => (h4.2 j x cs g1 g2).2) h5
 have hj : j < kids.length := by rw [← h4.1]; exact (List.getElem?_eq_some_iff.1 hc).1
 exact (h4.2 j _ cs (List.getElem?_eq_getElem hj) hc).1
theorem exS_leaf (S : Nat → Prop) (w : World) (k n a : Int) (s : Txt) : ExS S w [.int .i64 k, .int .i64 n, str s, .slice none 0 0, .int .i64 a] (.mk k n s [] a) := exS_of (LsAt.nil S w)
/-- The cells of an expression. -/
theorem ExS.cells {S : Nat → Prop} {w : World} {cs : List Value} {x : Ex} (h : ExS S w cs x) : ∃ v, cs = [.int .i64 x.kind, .int .i64 x.num, str x.txt, v, .int .i64 x.at_] ∧ (∃ ao cap, v = .slice ao x.kids.length cap) ∧ LsAt PE 5 S w v x.kids := by
 cases h with
 | mk k n s kids a ao cap css h1 h2 h3 h6 h4 h5 => exact ⟨_, rfl, ⟨ao, cap, rfl⟩, ao, cap, css, rfl, h1, h2, ⟨h3, fun j x cs g1 g2 => ⟨h6 j cs g2, h4 j x cs g1 g2⟩⟩, h5⟩
end Go.Proofs.YtdjehbdpcdikkaaGreatDoor

namespace Go.Proofs.YtdjehbdpcdikkaaGreatDoor
open Go.RowKit Go.Maps

set_option maxRecDepth 100000 in
set_option maxHeartbeats 4000000 in
theorem operator_any {S : Nat → Prop} {w : World} (s : Txt) {x y : Ex} {xv yv : Value} (hx : ExS S w [.int .i64 x.kind, .int .i64 x.num, str x.txt, xv, .int .i64 x.at_] x) (hy : ExS S w [.int .i64 y.kind, .int .i64 y.num, str y.txt, yv, .int .i64 y.at_] y) (xs1 : ∃ a n c, xv = .slice a n c) (ys1 : ∃ a n c, yv = .slice a n c) (hS : ∀ b, w.heap.size ≤ b → S b) :
  Calls Tryz.prog 210 #[str s, .agg #[.int .i64 x.kind, .int .i64 x.num, str x.txt, xv, .int .i64 x.at_], .agg #[.int .i64 y.kind, .int .i64 y.num, str y.txt, yv, .int .i64 y.at_]] w fun en w' => ∃ v, en = .returned (.agg #[.int .i64 5, .int .i64 0, str s, v, .int .i64 x.at_]) ∧ (∃ a c, v = .slice a 2 c) ∧ ExS S w' [.int .i64 5, .int .i64 0, str s, v, .int .i64 x.at_] (opE s x y) ∧ Below w.heap.size w w' := by
 obtain ⟨xa, xn, xc, rfl⟩ := xs1
 obtain ⟨ya, yn, yc, rfl⟩ := ys1
 have FIN : Hid (∀ w', Below w.heap.size w w' → ∀ g, S g → w'.heap[g]? = some (.cells #[.int .i64 x.kind, .int .i64 x.num, str x.txt, .slice xa xn xc, .int .i64 x.at_, .int .i64 y.kind, .int .i64 y.num, str y.txt, .slice ya yn yc, .int .i64 y.at_] 90 (0, 0)) → ExS S w' [.int .i64 5, .int .i64 0, str s, .slice (some ⟨g, 0, none⟩) 2 2, .int .i64 x.at_] (opE s x y)) := fun w' hw g hg hh => by
  have hx' := exS_ok.same _ _ w' _ _ hx hw.size (fun b _ hl => hw.block b hl)
  have hy' := exS_ok.same _ _ w' _ _ hy hw.size (fun b _ hl => hw.block b hl)
  refine exS_of (kids := [x, y]) ⟨some ⟨g, 0, none⟩, 2, [[.int .i64 x.kind, .int .i64 x.num, str x.txt, .slice xa xn xc, .int .i64 x.at_], [.int .i64 y.kind, .int .i64 y.num, str y.txt, .slice ya yn yc, .int .i64 y.at_]], rfl, Nat.le_refl _, by unfold maxLen; omega, ⟨rfl, fun j z cs h1 h2 => ?_⟩, fun _ => ⟨g, rfl, hg, lt_hp hh, fun j c hj => ?_⟩⟩
  ·
   match j, h1, h2 with
   | 0, h1, h2 =>
    simp at h1 h2
    subst h1 h2
    exact ⟨rfl, hx'⟩
   | 1, h1, h2 =>
    simp at h1 h2
    subst h1 h2
    exact ⟨rfl, hy'⟩
  ·
   rw [cell_hp hh]
   simpa using hj
 have HS := hide hS
 clear hx hy hS
 go_enter Tryz.func210, Tryz.ntmps210
 go_wp2_with fail
 refine bodyPost_ret (v := .agg #[.int .i64 5, .int .i64 0, str s, .slice (some ⟨w.heap.size + 1 + 1 + 1, 0, none⟩) 2 2, .int .i64 x.at_]) (by simp [results, Tryz.results210, go_sem]) rfl ?_
 have bb : ∀ o1 o2 o3 o4 : Obj, Below w.heap.size w ((((w.alloc o1).alloc o2).alloc o3).alloc o4) := fun o1 o2 o3 o4 => ((((Below.refl _ w).alloc (Nat.le_refl _) o1).alloc (by simp) o2).alloc (by simp; omega) o3).alloc (by simp; omega) o4
 have nn : ∀ o1 o2 o3 o4 : Obj, ((((w.alloc o1).alloc o2).alloc o3).alloc o4).heap[w.heap.size + 1 + 1 + 1]? = some o4 := fun o1 o2 o3 o4 => by
  have := heap_alloc_new (((w.alloc o1).alloc o2).alloc o3) o4
  simpa using this
 exact ⟨_, rfl, ⟨_, _, rfl⟩, unhide FIN _ (bb _ _ _ _) _ (unhide HS _ (by omega)) (nn _ _ _ _), bb _ _ _ _⟩
/-- An expression that was read. -/
def VE (S : Nat → Prop) (w : World) (v : Value) (x : Ex) : Prop := ∃ xv, v = .agg #[.int .i64 x.kind, .int .i64 x.num, str x.txt, xv, .int .i64 x.at_] ∧ (∃ a n c, xv = .slice a n c) ∧ ExS S w [.int .i64 x.kind, .int .i64 x.num, str x.txt, xv, .int .i64 x.at_] x
/-- What is asked of a function that reads an expression. -/
def OpC (F rb e dp : Nat) (part : Pr Ex) : Prop := ∀ (w : World) (l : List Tok) (it : Nat), Rd rb e w l it dp → Calls Tryz.prog F #[.pointer (some ⟨rb, 0, none⟩)] w fun en w' => Ans rb e dp w (fun w2 v x => VE (fun b => w.heap.size ≤ b) w2 v x) (part l it) en w'
/-- Zero. -/
abbrev exZ : Obj := .cells #[.int .i64 0, .int .i64 0, .string ⟨#[]⟩, .slice none 0 0, .int .i64 0] 90
/-- On the way through a row of operators. -/
structure JI (rb e dp : Nat) (signs : List Txt) (part : Pr Ex) (r0 : Rs Ex) (w : World) (xb : Nat) (sv : Value) (wr : World) (x : Ex) (l : List Tok) (it f : Nat) : Prop where
 kp : Kp rb w wr
 rd : Rd rb e wr l it dp
 box : ∃ xa xn xc, wr.heap[xb]? = some (.cells #[.int .i64 x.kind, .int .i64 x.num, str x.txt, .slice xa xn xc, .int .i64 x.at_] 90 (0, 0)) ∧ ExS (fun b => w.heap.size < b ∧ b ≠ xb) wr [.int .i64 x.kind, .int .i64 x.num, str x.txt, .slice xa xn xc, .int .i64 x.at_] x
 res : wr.heap[w.heap.size]? = some exZ
 sg : SgAt rb wr sv signs
 eq : r0 = joinL e part signs f x l it
 fuel : l.length + 1 ≤ f
 xb1 : w.heap.size < xb
end Go.Proofs.YtdjehbdpcdikkaaGreatDoor

namespace Go.Proofs.YtdjehbdpcdikkaaGreatDoor
open Go.RowKit Go.Maps

set_option maxRecDepth 100000 in
set_option maxHeartbeats 4000000 in
theorem joined_any (F : Nat) (eF : ∀ (args : Array Value) (w : World), (callFunc F args).run Tryz.prog w = .ok (.enter F args) w) {rb e dp : Nat} {part : Pr Ex} (hpart : OpC F rb e dp part) (hshr : Shr part) {w : World} {l : List Tok} {it : Nat} (h : Rd rb e w l it dp) (sv : Value) (signs : List Txt) (hsv : SgAt rb w sv signs) (hsl : signs.length ≤ 100) (hne : [] ∉ signs) :
  Calls Tryz.prog 202 #[.pointer (some ⟨rb, 0, none⟩), .func (.func F) #[.pointer (some ⟨rb, 0, none⟩)] #[], sv] w fun en w' => Ans rb e dp w (fun w2 v x => VE (fun b => w.heap.size ≤ b) w2 v x) (joined e part signs l it) en w' := by
 have mixed : Tryz.prog.follows .mixedOrders = true := by kernel_rfl
 obtain ⟨w1, hw1⟩ : ∃ w1, w1 = w.alloc exZ := ⟨_, rfl⟩
 have b1 : Below w.heap.size w w1 := by rw [hw1]; exact (Below.refl _ w).alloc (Nat.le_refl _) _
 have q1 : w1.heap[w.heap.size]? = some exZ := by rw [hw1]; exact heap_alloc_new w _
 have s1 : w1.heap.size = w.heap.size + 1 := by rw [hw1]; simp
 have hc := hpart w1 l it (h.later b1)
 obtain ⟨PO, hPO⟩ : ∃ PO : Ending → World → Prop, PO = fun en w' => Ans rb e dp w (fun w2 v x => VE (fun b => w.heap.size ≤ b) w2 v x) (joined e part signs l it) en w' := ⟨_, rfl⟩
 rw [← hPO]
 unfold joined at hPO
 have hrb := h.lt
 obtain ⟨sb, so, sc, esv, _⟩ := id hsv
 subst esv
 have HSV := hide hsv
 have HP := hide (And.intro hpart (And.intro hshr (And.intro hsl hne)))
 have K1 := hide (And.intro b1 (And.intro q1 (And.intro s1 hsv)))
 have HW1 : Hid (w1 = w.alloc (.cells #[.int .i64 0, .int .i64 0, .string ⟨#[]⟩, .slice none 0 0, .int .i64 0] 90)) := hw1
 clear hpart hshr h b1 q1 s1 hw1 hsv
 cases hq : part l it with
 | bad why at0 l2 =>
  rw [hq] at hc hPO
  have HPO := hide hPO
  clear hPO hq
  go_enter Tryz.func202, Tryz.ntmps202
  go_wp2_with fail
  rw [← unhide HW1]
  refine hc.mono ?_
  clear hc
  rintro en w2 ⟨rfl, k2⟩
  have H2 := hide ((Kp.of_below (unhide K1).1).trans k2)
  clear k2
  go_wp2_with fail
  refine ⟨rfl, ?_⟩
  rw [unhide HPO]
  exact ⟨rfl, unhide H2⟩
 | ok x l2 i2 =>
  rw [hq] at hc hPO
  obtain ⟨r0, hr0⟩ : ∃ r0, r0 = joinL e part signs (l2.length + 1) x l2 i2 := ⟨_, rfl⟩
  have hPO2 : PO = fun en w' => Ans rb e dp w (fun w2 v x => VE (fun b => w.heap.size ≤ b) w2 v x) r0 en w' := by rw [hr0]; exact hPO
  have HPO := hide hPO2
  have HR0 := hide hr0
  clear hPO hPO2 hq hr0
  go_enter Tryz.func202, Tryz.ntmps202
  go_wp2_with fail
  rw [← unhide HW1]
  refine hc.mono ?_
  clear hc
  rintro en w2 ⟨_, rfl, ⟨_, rfl, ⟨xa, xn, xc, rfl⟩, hX⟩, hR2, k2⟩
  obtain ⟨b1, q1, s1, hsv⟩ := unhide K1
  have k02 : Kp rb w w2 := (Kp.of_below b1).trans k2
  obtain ⟨w3, hw3⟩ : ∃ w3, w3 = w2.alloc (.cells #[.int .i64 x.kind, .int .i64 x.num, str x.txt, .slice xa xn xc, .int .i64 x.at_] 90) := ⟨_, rfl⟩
  have b3 : Below w2.heap.size w2 w3 := by rw [hw3]; exact (Below.refl _ w2).alloc (Nat.le_refl _) _
  have n3 : w3.heap[w2.heap.size]? = some (.cells #[.int .i64 x.kind, .int .i64 x.num, str x.txt, .slice xa xn xc, .int .i64 x.at_] 90 (0, 0)) := by rw [hw3]; exact heap_alloc_new w2 _
  have hs2 := k2.size
  have hst : JI rb e dp signs part r0 w w2.heap.size (.slice (some ⟨sb, so, none⟩) signs.length sc) w3 x l2 i2 (l2.length + 1) :=
   ⟨k02.trans (Kp.of_below b3), hR2.later b3, ⟨xa, xn, xc, n3, exS_ok.same _ _ w3 _ _ (exS_ok.mono _ (fun b => w.heap.size < b ∧ b ≠ w2.heap.size) _ _ _ hX (fun b hl hs => ⟨by omega, by omega⟩)) b3.size (fun b _ hl => b3.block b hl)⟩, (b3.block _ (by omega)).trans (k2.keep q1 (by omega)), (hsv.kp k02).kp (Kp.of_below b3), unhide HR0, Nat.le_refl _, by omega⟩
  have HST := hide hst
  have HW3 := hide hw3
  clear hX hR2 k2 b1 q1 s1 hsv k02 b3 n3 hst hw3 K1 HR0
  generalize hxb : w2.heap.size = xb at HST
  go_wp2_with fail
  rw [← unhide HW3]
  clear hxb HW3
  go_loopw [8] (fun _ wr => ∃ x l' it' f, JI rb e dp signs part r0 w xb (.slice (some ⟨sb, so, none⟩) signs.length sc) wr x l' it' f) (fun _ wr => left rb wr)
  case atStart => exact ⟨_, _, _, _, unhide HST⟩
  case round =>
   obtain ⟨x, l', it', f, hJ⟩ := hrel
   clear HST
   obtain ⟨f', rfl⟩ : ∃ f', f = f' + 1 := ⟨f - 1, by have := hJ.fuel; omega⟩
   have hg := sign_any hJ.rd
   have HC : Hid (∀ u, Below wr.heap.size wr u → Calls Tryz.prog 182 #[.slice (some ⟨sb, so, none⟩) signs.length sc, str (sgn e l')] u fun en w' => en = .returned (.bool (decide (sgn e l' ∈ signs))) ∧ w' = u) := fun u hu => contains_any (hJ.sg.kp (Kp.of_below hu)) (unhide HP).2.2.1 _
   by_cases hS : sgn e l' ∈ signs
   ·
    obtain ⟨t, l3, el, hq2⟩ := sgn_cons (s := sgn e l') rfl (fun e => (unhide HP).2.2.2 (e ▸ hS))
    clear hq2
    subst el
    rw [decide_eq_true hS] at HC
    have HJ := hide (And.intro hJ hS)
    generalize sgn e (t :: l3) = g at hg HC
    clear hJ hS
    go_wp2_with fail
    refine hg.mono ?_
    clear hg
    rintro en w4 ⟨rfl, b4⟩
    have hc := unhide HC w4 b4
    have htk : Calls Tryz.prog 150 #[.pointer (some ⟨rb, 0, none⟩)] w4 fun en w' => en = .returned (.agg #[.int .i64 t.kind, str t.text, .int .i64 t.num, .int .i64 (t.at_ : Int)]) ∧ Rd rb e w' l3 it' dp ∧ Kp rb w4 w' := take_any ((unhide HJ).1.rd.later b4)
    have B4 := hide b4
    clear b4 HC
    go_wp2_with fail
    refine hc.mono ?_
    clear hc
    rintro en w5 ⟨rfl, hw5⟩
    subst hw5
    go_wp2_with fail
    refine htk.mono ?_
    clear htk
    rintro en w6 ⟨rfl, hR6, k6⟩
    have K6 := hide (And.intro ((Kp.of_below (unhide B4)).trans k6) hR6)
    clear hR6 k6 B4
    go_wp2_with fail
    rename_i hK
    refine hK _ _ ?_
    clear hK
    go_wp2_with fail
    obtain ⟨hJ, hS⟩ := unhide HJ
    obtain ⟨k6, hR6⟩ := unhide K6
    obtain ⟨xa, xn, xc, hbx, hX⟩ := hJ.box
    have hbx6 := k6.keep hbx (by have := hJ.xb1; omega)
    have hop := (unhide HP).1 w6.drew l3 it' (hR6.later ((Below.refl _ w6).drew))
    have hE : r0 = (part l3 it').bind fun y l2 i => joinL e part signs f' (opE t.text x y) l2 i := by
     rw [hJ.eq]
     conv => lhs; unfold joinL
     rw [if_pos hS]; rfl
    have hxl : xb < w6.heap.size := lt_hp hbx6
    have hxw := hJ.xb1
    have HBX : Hid (∀ u, Kp rb w6 u → u.heap[xb]? = some (.cells #[.int .i64 x.kind, .int .i64 x.num, str x.txt, .slice xa xn xc, .int .i64 x.at_] 90 (0, 0))) := fun u ku => ku.keep hbx6 (by omega)
    have kw6 : Kp rb w w6 := hJ.kp.trans k6
    have hres6 := k6.keep hJ.res (by omega)
    have hsg6 := hJ.sg.kp k6
    have hX6 := exS_ok.same _ _ w6 _ _ hX k6.size (fun b hs hl => k6.block b hl (by omega))
    have hfu := hJ.fuel
    have hlf := left_rd hJ.rd
    have H6 := hide (And.intro kw6 (And.intro hres6 (And.intro hsg6 hX6)))
    clear hJ hS k6 hR6 hbx hX hbx6 kw6 hres6 hsg6 hX6 HJ K6
    cases hq : part l3 it' with
    | bad why at0 l4 =>
     rw [hq] at hop hE
     have HE := hide hE
     clear hE hq
     refine region_mixP (m := 5) (ml := [(0, 1), (1, 2), (2, 1), (3, 0), (4, 0), (5, 0)]) (fun f w' => f = false → w'.heap[xb]? = some (.cells #[.int .i64 x.kind, .int .i64 x.num, str x.txt, .slice xa xn xc, .int .i64 x.at_] 90 (0, 0))) mixed (by kernel_rfl) rfl (by rfl) (by kernel_rfl) (fun c a d v w h => by cases d <;> exact h) (fun PP PQ hPP hPQ => ?_)
     refine wpMixF_take (v := ?_) rfl (by kernel_rfl) (fun f w' hw => ?_) ?_
     rotate_left
     · (go_simp; try with_reducible rfl)
     refine wpMixF_till (v := ?_) rfl (by kernel_rfl) (fun w' hw => ?_) ?_
     rotate_left
     · (have q := hw rfl; have z0 := (cell_hp q 0).trans (show _ = some (.int .i64 x.kind) from rfl); have z1 := (cell_hp q 1).trans (show _ = some (.int .i64 x.num) from rfl); have z2 := (cell_hp q 2).trans (show _ = some (str x.txt) from rfl); have z3 := (cell_hp q 3).trans (show _ = some (.slice xa xn xc) from rfl); have z4 := (cell_hp q 4).trans (show _ = some (.int .i64 x.at_) from rfl); go_simp; try with_reducible rfl)
     refine wpMixF_take (v := ?_) rfl (by kernel_rfl) (fun f w' hw => ?_) ?_
     rotate_left
     · (go_simp; try with_reducible rfl)
     refine wpMixF_force rfl (fun _ => unhide HBX _ (Kp.of_below ((Below.refl _ w6).drew))) (fun K hK => ?_)
     go_simp
     refine hop.mono ?_
     clear hop
     rintro en w7 ⟨rfl, k7⟩
     have H7 := hide (((unhide H6).1.trans (Kp.of_below ((Below.refl _ w6).drew))).trans k7)
     clear k7
     go_wp2_with fail
     show PQ _ _ _
     refine hPQ _ _ _ ⟨rfl, ?_⟩
     rw [unhide HPO, unhide HE]
     exact ⟨rfl, unhide H7⟩
    | ok y l4 i4 =>
     have hle := (unhide HP).2.1 _ _ _ _ _ hq
     rw [hq] at hop hE
     have HE := hide hE
     clear hE hq
     refine region_mixP (m := 5) (ml := [(0, 1), (1, 2), (2, 1), (3, 0), (4, 0), (5, 0)]) (fun f w' => f = false → w'.heap[xb]? = some (.cells #[.int .i64 x.kind, .int .i64 x.num, str x.txt, .slice xa xn xc, .int .i64 x.at_] 90 (0, 0))) mixed (by kernel_rfl) rfl (by rfl) (by kernel_rfl) (fun c a d v w h => by cases d <;> exact h) (fun PP PQ hPP hPQ => ?_)
     refine wpMixF_take (v := ?_) rfl (by kernel_rfl) (fun f w' hw => ?_) ?_
     rotate_left
     · (go_simp; try with_reducible rfl)
     refine wpMixF_till (v := ?_) rfl (by kernel_rfl) (fun w' hw => ?_) ?_
     rotate_left
     · (have q := hw rfl; have z0 := (cell_hp q 0).trans (show _ = some (.int .i64 x.kind) from rfl); have z1 := (cell_hp q 1).trans (show _ = some (.int .i64 x.num) from rfl); have z2 := (cell_hp q 2).trans (show _ = some (str x.txt) from rfl); have z3 := (cell_hp q 3).trans (show _ = some (.slice xa xn xc) from rfl); have z4 := (cell_hp q 4).trans (show _ = some (.int .i64 x.at_) from rfl); go_simp; try with_reducible rfl)
     refine wpMixF_take (v := ?_) rfl (by kernel_rfl) (fun f w' hw => ?_) ?_
     rotate_left
     · (go_simp; try with_reducible rfl)
     refine wpMixF_force rfl (fun _ => unhide HBX _ (Kp.of_below ((Below.refl _ w6).drew))) (fun K hK => ?_)
     go_simp
     refine hop.mono ?_
     clear hop
     rintro en w7 ⟨_, rfl, ⟨_, rfl, ⟨ya, yn, yc, rfl⟩, hY⟩, hR7, k7'⟩
     have k7 : Kp rb w6 w7 := (Kp.of_below ((Below.refl _ w6).drew)).trans k7'
     have hs7 := k7.size
     have hX7 := exS_ok.same _ _ w7 _ _ (unhide H6).2.2.2 k7.size (fun b hs hl => k7.block b hl (by omega))
     have hY7 := exS_ok.mono _ (fun b => w.heap.size < b ∧ b ≠ xb) _ _ _ hY (fun b _ hs => by have e0 : w6.drew.heap.size = w6.heap.size := rfl; exact ⟨by omega, by omega⟩)
     have hopr := operator_any t.text hX7 hY7 ⟨_, _, _, rfl⟩ ⟨_, _, _, rfl⟩ (fun b hb => ⟨by omega, by omega⟩)
     have H7 := hide (And.intro hR7 k7)
     clear hY hX7 hY7 hR7 k7' k7
     go_wp2_with fail
     refine wpMixF_force rfl (fun _ => unhide HBX _ (unhide H7).2) (fun K hK => ?_)
     go_simp
     refine hopr.mono ?_
     clear hopr
     rintro en w8 ⟨_, rfl, ⟨va, vc, rfl⟩, hO8, b8⟩
     have k8 : Kp rb w6 w8 := (unhide H7).2.trans (Kp.of_below b8)
     have q8 := unhide HBX w8 k8
     have z0 := (cell_hp q8 0).trans (show _ = some (.int .i64 x.kind) from rfl)
     have z1 := (cell_hp q8 1).trans (show _ = some (.int .i64 x.num) from rfl)
     have z2 := (cell_hp q8 2).trans (show _ = some (str x.txt) from rfl)
     have z3 := (cell_hp q8 3).trans (show _ = some (.slice xa xn xc) from rfl)
     have z4 := (cell_hp q8 4).trans (show _ = some (.int .i64 x.at_) from rfl)
     have zf : ∀ o, w8.frozen? ⟨xb, o, none⟩ = false := fun o => by simp [World.frozen?, q8]
     have H8 := hide (And.intro k8 (And.intro hO8 (And.intro ((unhide H7).1.later b8) q8)))
     clear hO8 b8 k8 q8
     go_wp2_with fail
     refine wpMixF_force rfl (fun _ => (unhide H8).2.2.2) (fun K hK => ?_)
     go_simp
     have hN : JI rb e dp signs part r0 w xb (.slice (some ⟨sb, so, none⟩) signs.length sc) (((((w8.setCell ⟨xb, 0, none⟩ (.int .i64 5)).setCell ⟨xb, 1, none⟩ (.int .i64 0)).setCell ⟨xb, 2, none⟩ (str t.text)).setCell ⟨xb, 3, none⟩ (.slice va 2 vc)).setCell ⟨xb, 4, none⟩ (.int .i64 x.at_)) (opE t.text x y) l4 i4 f' := by
      obtain ⟨k8, hO8, hR8, q8⟩ := unhide H8
      have kk : Kp rb w (((((w8.setCell ⟨xb, 0, none⟩ (.int .i64 5)).setCell ⟨xb, 1, none⟩ (.int .i64 0)).setCell ⟨xb, 2, none⟩ (str t.text)).setCell ⟨xb, 3, none⟩ (.slice va 2 vc)).setCell ⟨xb, 4, none⟩ (.int .i64 x.at_)) := ((((((unhide H6).1.trans k8).set2 (by omega)).set2 (by omega)).set2 (by omega)).set2 (by omega)).set2 (by omega)
      have hsame : ∀ b, b ≠ xb → (((((w8.setCell ⟨xb, 0, none⟩ (.int .i64 5)).setCell ⟨xb, 1, none⟩ (.int .i64 0)).setCell ⟨xb, 2, none⟩ (str t.text)).setCell ⟨xb, 3, none⟩ (.slice va 2 vc)).setCell ⟨xb, 4, none⟩ (.int .i64 x.at_)).heap[b]? = w8.heap[b]? := fun b hb => by
       rw [Below.heap_setCell _ _ _ _ hb, Below.heap_setCell _ _ _ _ hb, Below.heap_setCell _ _ _ _ hb, Below.heap_setCell _ _ _ _ hb, Below.heap_setCell _ _ _ _ hb]
      refine ⟨kk, ((((hR8.set2 (by omega)).set2 (by omega)).set2 (by omega)).set2 (by omega)).set2 (by omega), ⟨va, 2, vc, ?_, ?_⟩, ?_, (unhide HSV).kp kk, unhide HE, by simp at hfu; omega, hxw⟩
      · exact (set_hp (set_hp (set_hp (set_hp (set_hp q8 0 _) 1 _) 2 _) 3 _) 4 _).trans rfl
      · exact exS_ok.same _ _ _ _ _ hO8 (by simp [World.setCell]) (fun b hs hl => hsame b hs.2)
      ·
       rw [hsame _ (by omega)]
       exact k8.keep (unhide H6).2.1 (by omega)
     have hl9 := left_rd hN.rd
     have HN := hide hN
     have HL9 := hide (And.intro hl9 (And.intro hlf hle))
     clear hN hl9 H8 H7 H6 HE z0 z1 z2 z3 z4 zf
     refine hK _ _ ?_
     clear hK K
     refine wpMixF_nil (fun h => by cases h) (hPP _ _ ?_)
     clear hPP hPQ
     go_wp2_with fail
     go_roundw
     case rel => exact ⟨_, _, _, _, unhide HN⟩
     case measure =>
      obtain ⟨r1, r2, r3⟩ := unhide HL9
      rw [r1, r2]
      simp; omega
   ·
    rw [decide_eq_false hS] at HC
    have hE : r0 = .ok x l' it' := by
     rw [hJ.eq]
     unfold joinL
     rw [if_neg hS]
    have HJ := hide (And.intro hJ hE)
    generalize sgn e l' = g at hg HC
    clear hJ hS hE
    go_wp2_with fail
    refine hg.mono ?_
    clear hg
    rintro en w4 ⟨rfl, b4⟩
    have hc := unhide HC w4 b4
    obtain ⟨hJ, hE⟩ := unhide HJ
    obtain ⟨xa, xn, xc, hbx, hX⟩ := hJ.box
    have hbx4 := (b4.block _ (lt_hp hbx)).trans hbx
    have hres4 := (b4.block _ (lt_hp hJ.res)).trans hJ.res
    have z0 := (cell_hp hbx4 0).trans (show _ = some (.int .i64 x.kind) from rfl)
    have z1 := (cell_hp hbx4 1).trans (show _ = some (.int .i64 x.num) from rfl)
    have z2 := (cell_hp hbx4 2).trans (show _ = some (str x.txt) from rfl)
    have z3 := (cell_hp hbx4 3).trans (show _ = some (.slice xa xn xc) from rfl)
    have z4 := (cell_hp hbx4 4).trans (show _ = some (.int .i64 x.at_) from rfl)
    have y0 := (cell_hp hres4 0).trans (show _ = some (.int .i64 0) from rfl)
    have y1 := (cell_hp hres4 1).trans (show _ = some (.int .i64 0) from rfl)
    have y2 := (cell_hp hres4 2).trans (show _ = some (.string ⟨#[]⟩) from rfl)
    have y3 := (cell_hp hres4 3).trans (show _ = some (.slice none 0 0) from rfl)
    have y4 := (cell_hp hres4 4).trans (show _ = some (.int .i64 0) from rfl)
    have yf : ∀ o, w4.frozen? ⟨w.heap.size, o, none⟩ = false := fun o => by simp [World.frozen?, hres4]
    have hxw := hJ.xb1
    have HF : Hid (∀ q0 q1 q2 q3 q4, VE (fun b => w.heap.size ≤ b) (((((w4.setCell ⟨w.heap.size, 0, none⟩ q0).setCell ⟨w.heap.size, 1, none⟩ q1).setCell ⟨w.heap.size, 2, none⟩ q2).setCell ⟨w.heap.size, 3, none⟩ q3).setCell ⟨w.heap.size, 4, none⟩ q4) (.agg #[.int .i64 x.kind, .int .i64 x.num, str x.txt, .slice xa xn xc, .int .i64 x.at_]) x ∧ Rd rb e (((((w4.setCell ⟨w.heap.size, 0, none⟩ q0).setCell ⟨w.heap.size, 1, none⟩ q1).setCell ⟨w.heap.size, 2, none⟩ q2).setCell ⟨w.heap.size, 3, none⟩ q3).setCell ⟨w.heap.size, 4, none⟩ q4) l' it' dp ∧ Kp rb w (((((w4.setCell ⟨w.heap.size, 0, none⟩ q0).setCell ⟨w.heap.size, 1, none⟩ q1).setCell ⟨w.heap.size, 2, none⟩ q2).setCell ⟨w.heap.size, 3, none⟩ q3).setCell ⟨w.heap.size, 4, none⟩ q4)) := fun q0 q1 q2 q3 q4 => by
     have hsame : ∀ b, b ≠ w.heap.size → (((((w4.setCell ⟨w.heap.size, 0, none⟩ q0).setCell ⟨w.heap.size, 1, none⟩ q1).setCell ⟨w.heap.size, 2, none⟩ q2).setCell ⟨w.heap.size, 3, none⟩ q3).setCell ⟨w.heap.size, 4, none⟩ q4).heap[b]? = w4.heap[b]? := fun b hb => by
      rw [Below.heap_setCell _ _ _ _ hb, Below.heap_setCell _ _ _ _ hb, Below.heap_setCell _ _ _ _ hb, Below.heap_setCell _ _ _ _ hb, Below.heap_setCell _ _ _ _ hb]
     have h4 := exS_ok.same _ _ w4 _ _ hX b4.size (fun b _ hl => b4.block b hl)
     have h5 := exS_ok.same _ _ (((((w4.setCell ⟨w.heap.size, 0, none⟩ q0).setCell ⟨w.heap.size, 1, none⟩ q1).setCell ⟨w.heap.size, 2, none⟩ q2).setCell ⟨w.heap.size, 3, none⟩ q3).setCell ⟨w.heap.size, 4, none⟩ q4) _ _ h4 (by simp [World.setCell]) (fun b hs _ => hsame b (by omega))
     exact ⟨⟨_, rfl, ⟨_, _, _, rfl⟩, exS_ok.mono _ _ _ _ _ h5 (fun b _ hs => by omega)⟩, (((((hJ.rd.later b4).set2 (by omega)).set2 (by omega)).set2 (by omega)).set2 (by omega)).set2 (by omega), (((((hJ.kp.trans (Kp.of_below b4)).set2 (Nat.le_refl _)).set2 (Nat.le_refl _)).set2 (Nat.le_refl _)).set2 (Nat.le_refl _)).set2 (Nat.le_refl _)⟩
    have HE := hide hE
    clear b4 HC hJ hE hbx hX hbx4 hres4 HJ
    go_wp2_with fail
    refine hc.mono ?_
    clear hc
    rintro en w5 ⟨rfl, hw5⟩
    subst hw5
    go_wp2_with fail
    refine bodyPost_ret (v := .agg #[.int .i64 x.kind, .int .i64 x.num, str x.txt, .slice xa xn xc, .int .i64 x.at_]) (by simp [results, Tryz.results202, go_sem, y0, y1, y2, y3, y4]) rfl ?_
    rw [unhide HPO, unhide HE]
    exact ⟨_, rfl, unhide HF _ _ _ _ _⟩
end Go.Proofs.YtdjehbdpcdikkaaGreatDoor

namespace Go.Proofs.YtdjehbdpcdikkaaGreatDoor
open Go.RowKit Go.Maps

/-- The cells of a block that holds an expression. -/
theorem ex5 {w : World} {b : Nat} {v0 v1 v2 v3 v4 : Value} (h : w.heap[b]? = some (.cells #[v0, v1, v2, v3, v4] 90 (0, 0))) :
  w.cell? ⟨b, 0, none⟩ = some v0 ∧ w.cell? ⟨b, 1, none⟩ = some v1 ∧ w.cell? ⟨b, 2, none⟩ = some v2 ∧ w.cell? ⟨b, 3, none⟩ = some v3 ∧ w.cell? ⟨b, 4, none⟩ = some v4 ∧ ∀ o, w.frozen? ⟨b, o, none⟩ = false :=
 ⟨(cell_hp h 0).trans rfl, (cell_hp h 1).trans rfl, (cell_hp h 2).trans rfl, (cell_hp h 3).trans rfl, (cell_hp h 4).trans rfl, fun o => by simp [World.frozen?, h]⟩
/-- An expression stored in a block of one's own. -/
theorem ve_store {rb e dp : Nat} {w w4 : World} {l : List Tok} {it : Nat} {x : Ex} {S : Nat → Prop} {gb : Nat} {xa : Option Addr} {xn xc : Nat} (hX : ExS S w4 [.int .i64 x.kind, .int .i64 x.num, str x.txt, .slice xa xn xc, .int .i64 x.at_] x) (hS : ∀ b, S b → w.heap.size ≤ b ∧ b ≠ gb) (hR : Rd rb e w4 l it dp) (k : Kp rb w w4) (hg : w.heap.size ≤ gb) (hrb : rb < w.heap.size) (q0 q1 q2 q3 q4 : Value) :
  VE (fun b => w.heap.size ≤ b) (((((w4.setCell ⟨gb, 0, none⟩ q0).setCell ⟨gb, 1, none⟩ q1).setCell ⟨gb, 2, none⟩ q2).setCell ⟨gb, 3, none⟩ q3).setCell ⟨gb, 4, none⟩ q4) (.agg #[.int .i64 x.kind, .int .i64 x.num, str x.txt, .slice xa xn xc, .int .i64 x.at_]) x ∧ Rd rb e (((((w4.setCell ⟨gb, 0, none⟩ q0).setCell ⟨gb, 1, none⟩ q1).setCell ⟨gb, 2, none⟩ q2).setCell ⟨gb, 3, none⟩ q3).setCell ⟨gb, 4, none⟩ q4) l it dp ∧ Kp rb w (((((w4.setCell ⟨gb, 0, none⟩ q0).setCell ⟨gb, 1, none⟩ q1).setCell ⟨gb, 2, none⟩ q2).setCell ⟨gb, 3, none⟩ q3).setCell ⟨gb, 4, none⟩ q4) := by
 have hsame : ∀ b, b ≠ gb → (((((w4.setCell ⟨gb, 0, none⟩ q0).setCell ⟨gb, 1, none⟩ q1).setCell ⟨gb, 2, none⟩ q2).setCell ⟨gb, 3, none⟩ q3).setCell ⟨gb, 4, none⟩ q4).heap[b]? = w4.heap[b]? := fun b hb => by
  rw [Below.heap_setCell _ _ _ _ hb, Below.heap_setCell _ _ _ _ hb, Below.heap_setCell _ _ _ _ hb, Below.heap_setCell _ _ _ _ hb, Below.heap_setCell _ _ _ _ hb]
 have h5 := exS_ok.same _ _ (((((w4.setCell ⟨gb, 0, none⟩ q0).setCell ⟨gb, 1, none⟩ q1).setCell ⟨gb, 2, none⟩ q2).setCell ⟨gb, 3, none⟩ q3).setCell ⟨gb, 4, none⟩ q4) _ _ hX (by simp [World.setCell]) (fun b hs _ => hsame b (hS b hs).2)
 exact ⟨⟨_, rfl, ⟨_, _, _, rfl⟩, exS_ok.mono _ _ _ _ _ h5 (fun b _ hs => (hS b hs).1)⟩, ((((hR.set2 (by omega)).set2 (by omega)).set2 (by omega)).set2 (by omega)).set2 (by omega), ((((k.set2 (by omega)).set2 (by omega)).set2 (by omega)).set2 (by omega)).set2 (by omega)⟩

set_option maxRecDepth 100000 in
set_option maxHeartbeats 4000000 in
theorem term_any {rb e dp : Nat} {part : Pr Ex} (hpart : OpC 211 rb e dp part) (hshr : Shr part) : OpC 203 rb e dp (joined e part [[42], [47], [37]]) := by
 intro w l it h
 obtain ⟨w1, hw1⟩ : ∃ w1, w1 = w.alloc exZ := ⟨_, rfl⟩
 have b1 : Below w.heap.size w w1 := by rw [hw1]; exact (Below.refl _ w).alloc (Nat.le_refl _) _
 have q1 : w1.heap[w.heap.size]? = some exZ := by rw [hw1]; exact heap_alloc_new w _
 have s1 : w1.heap.size = w.heap.size + 1 := by rw [hw1]; simp
 obtain ⟨w2, hw2⟩ : ∃ w2, w2 = w1.alloc (.cells #[.string ⟨#[42]⟩, .string ⟨#[47]⟩, .string ⟨#[37]⟩] 9) := ⟨_, rfl⟩
 have b2 : Below w.heap.size w w2 := by rw [hw2]; exact b1.alloc b1.size _
 have n2 : w2.heap[w.heap.size + 1]? = some (.cells #[.string ⟨#[42]⟩, .string ⟨#[47]⟩, .string ⟨#[37]⟩] 9 (0, 0)) := by rw [hw2, ← s1]; exact heap_alloc_new w1 _
 have q2 : w2.heap[w.heap.size]? = some exZ := by rw [hw2, Below.heap_alloc _ _ _ (by omega)]; exact q1
 have s2 : w2.heap.size = w.heap.size + 2 := by rw [hw2]; simp; omega
 have hrb := h.lt
 have hsv : SgAt rb w2 (.slice (some ⟨w.heap.size + 1, 0, none⟩) 3 3) [[42], [47], [37]] := by
  refine ⟨w.heap.size + 1, 0, 3, rfl, by omega, by omega, fun j x hx => ?_⟩
  rw [cell_hp n2]
  match j, hx with
  | 0, hx => simp at hx; subst hx; rfl
  | 1, hx => simp at hx; subst hx; rfl
  | 2, hx => simp at hx; subst hx; rfl
 have hc := joined_any 211 (fun _ _ => rfl) hpart hshr (h.later b2) _ _ hsv (by decide) (by decide)
 obtain ⟨PO, hPO⟩ : ∃ PO : Ending → World → Prop, PO = fun en w' => Ans rb e dp w (fun w2 v x => VE (fun b => w.heap.size ≤ b) w2 v x) (joined e part [[42], [47], [37]] l it) en w' := ⟨_, rfl⟩
 rw [← hPO]
 have HW1 : Hid (w1 = w.alloc (.cells #[.int .i64 0, .int .i64 0, .string ⟨#[]⟩, .slice none 0 0, .int .i64 0] 90)) := hw1
 have HW2 := hide hw2
 have K2 := hide (And.intro b2 (And.intro q2 s2))
 clear hpart hshr h b1 q1 s1 hw1 hw2 b2 n2 q2 s2 hsv
 cases hq : joined e part [[42], [47], [37]] l it with
 | bad why at0 l2 =>
  rw [hq] at hc hPO
  have HPO := hide hPO
  clear hPO hq
  go_enter Tryz.func203, Tryz.ntmps203
  go_wp2_with fail
  rw [← unhide HW1, ← unhide HW2]
  refine hc.mono ?_
  clear hc
  rintro en w3 ⟨rfl, k3⟩
  have H3 := hide ((Kp.of_below (unhide K2).1).trans k3)
  clear k3
  go_wp2_with fail
  refine ⟨rfl, ?_⟩
  rw [unhide HPO]
  exact ⟨rfl, unhide H3⟩
 | ok x l2 i2 =>
  rw [hq] at hc hPO
  have HPO := hide hPO
  clear hPO hq
  go_enter Tryz.func203, Tryz.ntmps203
  go_wp2_with fail
  rw [← unhide HW1, ← unhide HW2]
  refine hc.mono ?_
  clear hc
  rintro en w3 ⟨_, rfl, ⟨_, rfl, ⟨xa, xn, xc, rfl⟩, hX⟩, hR3, k3⟩
  obtain ⟨b2, q2, s2⟩ := unhide K2
  obtain ⟨y0, y1, y2, y3, y4, yf⟩ := ex5 (k3.keep q2 (by omega))
  have HF := hide (ve_store hX (fun b hb => ⟨by omega, by omega⟩) hR3 ((Kp.of_below b2).trans k3) (Nat.le_refl _) hrb)
  clear hX hR3 k3 b2 q2 s2
  go_wp2_with fail
  refine bodyPost_ret (v := .agg #[.int .i64 x.kind, .int .i64 x.num, str x.txt, .slice xa xn xc, .int .i64 x.at_]) (by simp [results, Tryz.results203, go_sem, y0, y1, y2, y3, y4]) rfl ?_
  rw [unhide HPO]
  exact ⟨_, rfl, unhide HF _ _ _ _ _⟩
end Go.Proofs.YtdjehbdpcdikkaaGreatDoor

namespace Go.Proofs.YtdjehbdpcdikkaaGreatDoor
open Go.RowKit Go.Maps

set_option maxRecDepth 100000 in
set_option maxHeartbeats 4000000 in
theorem expr_no {rb e : Nat} : OpC 185 rb e 32 (refuse e 4) := by
 intro w l it h
 obtain ⟨w1, hw1⟩ : ∃ w1, w1 = w.alloc exZ := ⟨_, rfl⟩
 have b1 : Below w.heap.size w w1 := by rw [hw1]; exact (Below.refl _ w).alloc (Nat.le_refl _) _
 have hc := enter_no (h.later b1)
 have HW1 : Hid (w1 = w.alloc (.cells #[.int .i64 0, .int .i64 0, .string ⟨#[]⟩, .slice none 0 0, .int .i64 0] 90)) := hw1
 obtain ⟨PO, hPO⟩ : ∃ PO : Ending → World → Prop, PO = fun en w' => Ans rb e 32 w (fun w2 v x => VE (fun b => w.heap.size ≤ b) w2 v x) (refuse e 4 l it) en w' := ⟨_, rfl⟩
 rw [← hPO]
 have HPO := hide hPO
 have B1 := hide b1
 clear hw1 h b1 hPO
 go_enter Tryz.func185, Tryz.ntmps185
 go_wp2_with fail
 rw [← unhide HW1]
 refine hc.mono ?_
 clear hc
 rintro en w3 ⟨rfl, b3⟩
 have H3 := hide (Kp.of_below (rb := rb) ((unhide B1).trans (b3.mono (unhide B1).size)))
 clear b3
 go_wp2_with fail
 refine ⟨rfl, ?_⟩
 rw [unhide HPO]
 exact ⟨rfl, unhide H3⟩

set_option maxRecDepth 100000 in
set_option maxHeartbeats 4000000 in
theorem expr_any {rb e dp : Nat} {part : Pr Ex} (hd : dp < 32) (hpart : OpC 203 rb e (dp + 1) part) (hshr : Shr part) : OpC 185 rb e dp (joined e part [[43], [45]]) := by
 intro w l it h
 obtain ⟨w1, hw1⟩ : ∃ w1, w1 = w.alloc exZ := ⟨_, rfl⟩
 have b1 : Below w.heap.size w w1 := by rw [hw1]; exact (Below.refl _ w).alloc (Nat.le_refl _) _
 have q1 : w1.heap[w.heap.size]? = some exZ := by rw [hw1]; exact heap_alloc_new w _
 have s1 : w1.heap.size = w.heap.size + 1 := by rw [hw1]; simp
 have he := enter_any (h.later b1) hd
 have hrb := h.lt
 obtain ⟨PO, hPO⟩ : ∃ PO : Ending → World → Prop, PO = fun en w' => Ans rb e dp w (fun w2 v x => VE (fun b => w.heap.size ≤ b) w2 v x) (joined e part [[43], [45]] l it) en w' := ⟨_, rfl⟩
 rw [← hPO]
 have HW1 : Hid (w1 = w.alloc (.cells #[.int .i64 0, .int .i64 0, .string ⟨#[]⟩, .slice none 0 0, .int .i64 0] 90)) := hw1
 have HPO := hide hPO
 have HP := hide (And.intro hpart (And.intro hshr hd))
 have K1 := hide (And.intro b1 (And.intro q1 s1))
 clear hpart hshr h b1 q1 s1 hw1 hPO hd
 go_enter Tryz.func185, Tryz.ntmps185
 go_wp2_with fail
 rw [← unhide HW1]
 refine he.mono ?_
 clear he
 rintro en w2 ⟨rfl, hR2, k2⟩
 obtain ⟨b1, q1, s1⟩ := unhide K1
 have hs2 := k2.size
 obtain ⟨w3, hw3⟩ : ∃ w3, w3 = w2.alloc (.cells #[.string ⟨#[43]⟩, .string ⟨#[45]⟩] 9) := ⟨_, rfl⟩
 have b3 : Below w2.heap.size w2 w3 := by rw [hw3]; exact (Below.refl _ w2).alloc (Nat.le_refl _) _
 have n3 : w3.heap[w2.heap.size]? = some (.cells #[.string ⟨#[43]⟩, .string ⟨#[45]⟩] 9 (0, 0)) := by rw [hw3]; exact heap_alloc_new w2 _
 have k3 : Kp rb w w3 := ((Kp.of_below b1).trans k2).trans (Kp.of_below b3)
 have q3 : w3.heap[w.heap.size]? = some exZ := (b3.block _ (by omega)).trans (k2.keep q1 (by omega))
 have s3 : w3.heap.size = w2.heap.size + 1 := by rw [hw3]; simp
 have hsv : SgAt rb w3 (.slice (some ⟨w2.heap.size, 0, none⟩) 2 2) [[43], [45]] := by
  refine ⟨w2.heap.size, 0, 2, rfl, by omega, by omega, fun j x hx => ?_⟩
  rw [cell_hp n3]
  match j, hx with
  | 0, hx => simp at hx; subst hx; rfl
  | 1, hx => simp at hx; subst hx; rfl
 have hc := joined_any 203 (fun _ _ => rfl) (unhide HP).1 (unhide HP).2.1 (hR2.later b3) _ _ hsv (by decide) (by decide)
 have HW3 := hide hw3
 have K3 := hide (And.intro k3 (And.intro q3 (And.intro s3 (by omega : w.heap.size + 1 ≤ w2.heap.size))))
 clear b1 q1 s1 hs2 hw3 b3 n3 k3 q3 s3 hsv K1 hR2 k2
 cases hq : joined e part [[43], [45]] l it with
 | bad why at0 l2 =>
  rw [hq] at hc HPO
  clear hq
  go_wp2_with fail
  rw [← unhide HW3]
  refine hc.mono ?_
  clear hc
  rintro en w4 ⟨rfl, k4⟩
  have H4 := hide ((unhide K3).1.trans k4)
  clear k4
  go_wp2_with fail
  refine ⟨rfl, ?_⟩
  rw [unhide HPO]
  exact ⟨rfl, unhide H4⟩
 | ok x l2 i2 =>
  rw [hq] at hc HPO
  clear hq
  go_wp2_with fail
  rw [← unhide HW3]
  refine hc.mono ?_
  clear hc
  rintro en w4 ⟨_, rfl, ⟨_, rfl, ⟨xa, xn, xc, rfl⟩, hX⟩, hR4, k4⟩
  obtain ⟨k3, q3, s3, s3'⟩ := unhide K3
  have hs4 := k4.size
  obtain ⟨w5, hw5⟩ : ∃ w5, w5 = w4.alloc (.cells #[.int .i64 x.kind, .int .i64 x.num, str x.txt, .slice xa xn xc, .int .i64 x.at_] 90) := ⟨_, rfl⟩
  have b5 : Below w4.heap.size w4 w5 := by rw [hw5]; exact (Below.refl _ w4).alloc (Nat.le_refl _) _
  have n5 : w5.heap[w4.heap.size]? = some (.cells #[.int .i64 x.kind, .int .i64 x.num, str x.txt, .slice xa xn xc, .int .i64 x.at_] 90 (0, 0)) := by rw [hw5]; exact heap_alloc_new w4 _
  have hl := leave_any (hR4.later b5) (unhide HP).2.2
  have hX5 := exS_ok.same _ _ w5 _ _ hX b5.size (fun b _ hl => b5.block b hl)
  have q5 : w5.heap[w.heap.size]? = some exZ := (b5.block _ (by omega)).trans (k4.keep q3 (by omega))
  have HW5 := hide hw5
  have s5 : w5.heap.size = w4.heap.size + 1 := by rw [hw5]; simp
  have K5 := hide (And.intro ((k3.trans k4).trans (Kp.of_below b5)) (And.intro n5 (And.intro hX5 (And.intro q5 s5))))
  have hs : w.heap.size + 2 ≤ w4.heap.size ∧ w.heap.size + 2 ≤ w3.heap.size := ⟨by omega, by omega⟩
  have HS := hide hs
  clear hX hR4 k4 k3 q3 s3 s3' hs4 hw5 b5 n5 hX5 q5 K3 hs s5
  generalize hxb : w4.heap.size = xb at HS K5
  go_wp2_with fail
  rw [← unhide HW5]
  refine hl.mono ?_
  clear hl
  rintro en w6 ⟨rfl, hR6, k6⟩
  obtain ⟨k5, n5, hX5, q5, s5⟩ := unhide K5
  obtain ⟨g1, g2⟩ := unhide HS
  have n6 := k6.keep n5 (by omega)
  obtain ⟨z0, z1, z2, z3, z4, zf⟩ := ex5 n6
  have hX6 := exS_ok.same _ _ w6 _ _ hX5 k6.size (fun b hs hl => k6.block b hl (by omega))
  obtain ⟨y0, y1, y2, y3, y4, yf⟩ := ex5 (k6.keep q5 (by omega))
  have HF := hide (ve_store (gb := w.heap.size) hX6 (fun b hb => ⟨by omega, by omega⟩) hR6 (k5.trans k6) (Nat.le_refl _) hrb)
  clear hR6 k6 k5 n5 hX5 q5 s5 n6 hX6 g1 g2 zf HW5 hxb
  go_wp2_with fail
  refine bodyPost_ret (v := .agg #[.int .i64 x.kind, .int .i64 x.num, str x.txt, .slice xa xn xc, .int .i64 x.at_]) (by simp [results, Tryz.results185, go_sem, y0, y1, y2, y3, y4]) rfl ?_
  rw [unhide HPO]
  exact ⟨_, rfl, unhide HF _ _ _ _ _⟩
end Go.Proofs.YtdjehbdpcdikkaaGreatDoor
