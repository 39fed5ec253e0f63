/- The walk of TupleOwn. -/
import Derived.Test.YtklmhgljhmodlaaAlive
import Derived.Maps.AppendAt
import Derived.OneCell
namespace Go.Proofs.Ytklmhgljhmodlaa
open Go.RowKit

theorem sameB_self (l : List Int) : sameB l l = true := decide_eq_true rfl

/-- 'append' of a slice of numbers to a row that was made since: where the new row lies. -/
theorem wpList_append_at (w : World) {ops : Array Oper} {rest : List Oper} {o : Oper} {a : Act} {Q : Exit → Act → World → Prop} (hgd : o.guard = none) (s x : Operand)
    (ho : o.op = .call { callee := .builtin .append, args := #[s, x], argTypes := #[22, 22] }) (base : Nat)
    (v : Value) (l : List Int) (hs : a.eval s = v) (hown : OwnI base w v l) (ao : Option Addr) (n c : Nat) (m : List Int) (hn : n = m.length) (hx : a.eval x = .slice ao n c) (hnone : ao = none → m = [] ∧ c = 0)
    (hc : ∀ ad, ao = some ad → ∀ j u, (m.map (Value.int .i64))[j]? = some u → w.cell? (ad.add j) = some u) (hbytes : (l.length + m.length) * 8 ≤ 140737488355328) (hbase : base ≤ w.heap.size)
    (h : ∀ v' w', OwnI base w' v' (l ++ m) → w.grownBy w' v.ownBlock → (v'.ownBlock = v.ownBlock ∨ v'.ownBlock = some w.heap.size) → wpList Try.prog ops Q rest (a.put o.dst v') w') :
    wpList Try.prog ops Q (o :: rest) a w := by
  subst hn
  obtain ⟨i0, hi, hz0, hz1, hz2⟩ := info_parts info3
  refine wpList_plain hgd fun K hK => ?_
  cases ao with
  | none =>
    obtain ⟨rfl, rfl⟩ := hnone rfl
    have hrun := run_append_owned_none (P := Try.prog) w base 22 o.type 3 i0 1 Try.underlying22 hi _ _ _ hown
    unfold Oper.wp
    simp only [execOp, ho, resolve, invoke, builtin, hs, hx, hrun, Result.andThen, Sem.run_bind, Sem.run_pure, List.map_toArray, List.map_cons, List.map_nil, List.length_nil]
    exact hK _ _ (h v w (by simpa using hown) (World.grownBy.refl _ _) (.inl rfl))
  | some ad =>
    obtain ⟨v', w', hr, h2, h3, _, h5⟩ := run_append_own_at (P := Try.prog) w base 22 o.type 3 i0 (.int .i64 0) 1 8 Try.underlying22 hi hz0 hz1 hz2 rfl (by decide) v l.length _ hown ad m.length c (m.map (Value.int .i64)) (by simp) (hc ad rfl)
      (fun u hu => by obtain ⟨n, _, rfl⟩ := List.mem_map.1 hu; rfl) (by unfold maxLen; omega) hbytes hbase
    unfold Oper.wp execOp
    simp only [ho, resolve, invoke, builtin, Sem.run_bind, Sem.run_pure, Result.andThen_ok, List.map_toArray, List.map_cons, List.map_nil, hs, hx, hr]
    exact hK _ _ (h v' w' (OwnI.of h2 (by simp) (by simp)) h3 h5)

theorem Ints.cells {B : Nat} {w : World} {ao : Option Addr} {n c : Nat} {m : List Int} (h : Ints B w (.slice ao n c) m) : ∀ ad, ao = some ad → ∀ j u, (m.map (Value.int .i64))[j]? = some u → w.cell? (ad.add j) = some u := by
  intro ad e j u hj
  obtain ⟨a', cap', e2, _, _, h4⟩ := h
  simp only [Value.slice.injEq] at e2
  obtain ⟨rfl, rfl, rfl⟩ := e2
  rw [List.getElem?_map] at hj
  obtain ⟨x, hx, rfl⟩ := Option.map_eq_some_iff.1 hj
  obtain ⟨b, off, e3, _, hc⟩ := h4 j x hx
  rw [e] at e3
  cases e3
  have e1 : (⟨b, off, none⟩ : Addr).add j = ⟨b, off + j, none⟩ := by cases j <;> simp [Addr.add]
  rw [e1]
  exact hc

theorem Ints.none_nil {B : Nat} {w : World} {ao : Option Addr} {n c : Nat} {m : List Int} (h : Ints B w (.slice ao n c) m) (e : ao = none) : m = [] := by
  obtain ⟨a', c', e2, _, _, h4⟩ := h
  simp only [Value.slice.injEq] at e2
  obtain ⟨rfl, _, _⟩ := e2
  match m, h4 with
  | [], _ => rfl
  | x :: r, h4 => obtain ⟨b, off, e3, _⟩ := h4 0 x rfl
                  rw [e] at e3
                  cases e3

/-- What an own row is as a value. -/
theorem OwnI.shape {base : Nat} {w : World} {v : Value} {l : List Int} (h : OwnI base w v l) : ∃ ao c, v = .slice ao l.length c ∧ (ao = none → l = [] ∧ c = 0) ∧ (∀ ad, ao = some ad → ∃ g, ad = ⟨g, 0, none⟩ ∧ base ≤ g ∧ g < w.heap.size) ∧ l.length ≤ c := by
  rcases h.2 with ⟨rfl, h0⟩ | ⟨g, cap, cur, rfl, hb, hg, hn, hm, hs, ht⟩
  · have : l = [] := List.length_eq_zero_iff.1 h0
    subst this
    exact ⟨none, 0, rfl, fun _ => ⟨rfl, rfl⟩, fun ad e => by simp at e, Nat.zero_le _⟩
  · refine ⟨_, cap, rfl, fun e => by simp at e, fun ad e => ?_, hn⟩
    simp only [Option.some.injEq] at e
    exact ⟨g, e.symm, hb, (Array.getElem?_eq_some_iff.1 hg).1⟩

theorem OwnI.of_below {base : Nat} {w w' : World} {v : Value} {l : List Int} (h : OwnI base w v l) (hb : Below w.heap.size w w') : OwnI base w' v l :=
  World.ownsRow.kept h (row := none) ⟨hb.os, hb.tape, hb.output, hb.size, fun k hk _ => hb.block k hk⟩ (by cases v.ownBlock <;> simp)
theorem turnA_len (o t : List Int) : (turnA o t).length ≤ 8 := by
  cases h : fitN o [t.length] with
  | true => rw [turnA_fit h, turn_length]; exact (right_in (fitN_one h).2).1
  | false => rw [turnA_not h]; simp
theorem backA_len (o t : List Int) : (backA o t).length ≤ 8 := by
  cases h : fitN o [t.length] with
  | true => rw [backA_fit h, back, backTo_length]; exact (right_in (fitN_one h).2).1
  | false => rw [backA_not h]; simp

/-- Both answered tuples, apart from each other and from what was there at B. -/
structure Pair (w2 : World) (C : Nat) (x y : Value) (n m : Nat) (wr : World) : Prop where
  base : Below w2.heap.size w2 wr
  xo : ∃ l, l.length = n ∧ OwnI w2.heap.size wr x l
  yo : ∃ l, l.length = m ∧ OwnI C wr y l
  xlt : ∀ k, x.ownBlock = some k → k < C
  le : w2.heap.size ≤ C
  cle : C ≤ wr.heap.size

theorem Pair.setX {w2 wr : World} {C g n m cap : Nat} {y : Value} (h : Pair w2 C (.slice (some ⟨g, 0, none⟩) n cap) y n m wr) (k : Nat) (u : Int) : Pair w2 C (.slice (some ⟨g, 0, none⟩) n cap) y n m (wr.setCell ⟨g, k, none⟩ (.int .i64 u)) := by
  obtain ⟨lx, ex, ox⟩ := h.xo
  obtain ⟨ly, ey, oy⟩ := h.yo
  have hg := h.xlt g rfl
  exact ⟨h.base.setCell (OwnI.base_le ox) _, ⟨_, by simpa using ex, ox.stored ex.symm k u⟩, ⟨ly, ey, ownsRow_setCell_below oy (a := ⟨g, k, none⟩) hg _⟩, h.xlt, h.le, by simpa [World.setCell] using h.cle⟩
theorem Pair.setY {w2 wr : World} {C g n m cap : Nat} {x : Value} (h : Pair w2 C x (.slice (some ⟨g, 0, none⟩) m cap) n m wr) (k : Nat) (u : Int) : Pair w2 C x (.slice (some ⟨g, 0, none⟩) m cap) n m (wr.setCell ⟨g, k, none⟩ (.int .i64 u)) := by
  obtain ⟨lx, ex, ox⟩ := h.xo
  obtain ⟨ly, ey, oy⟩ := h.yo
  have hb := OwnI.base_le oy
  exact ⟨h.base.setCell (show w2.heap.size ≤ g from Nat.le_trans h.le hb) _, ⟨lx, ex, ownsRow_setCell_other ox (a := ⟨g, k, none⟩) (fun e => by have := h.xlt g e; omega) _⟩, ⟨_, by simpa using ey, oy.stored ey.symm k u⟩, h.xlt, h.le, by simpa [World.setCell] using h.cle⟩

/-- Behind one more number at the first one's end. -/
theorem Pair.afterX {w2 wr wA : World} {C n m : Nat} {x y v' : Value} {lx ly : List Int} {ob : Obj} (h : Pair w2 C x y n m wr) (ox : OwnI w2.heap.size wr x lx) (oy : OwnI C wr y ly)
    (gA : (wr.alloc ob).grownBy wA x.ownBlock) (hA : v'.ownBlock = x.ownBlock ∨ v'.ownBlock = some (wr.alloc ob).heap.size) :
    Below w2.heap.size w2 wA ∧ OwnI C wA y ly ∧ (∀ k, y.ownBlock = some k → v'.ownBlock ≠ some k) ∧ C ≤ wA.heap.size := by
  have b1 : Below w2.heap.size w2 (wr.alloc ob) := h.base.alloc h.base.size _
  have hne : ∀ k, y.ownBlock = some k → x.ownBlock ≠ some k := fun k e e2 => by
    have h1 := h.xlt k e2
    have h2 := (World.ownsRow.lt oy k e).1
    omega
  refine ⟨b1.grown gA b1.size (fun k e => (World.ownsRow.lt ox k e).1), World.ownsRow.kept (World.ownsRow.alloc oy ob) gA ?_, fun k e e2 => ?_, Nat.le_trans h.cle (Nat.le_trans (by simp) gA.size)⟩
  · cases e : y.ownBlock with
    | none => exact .inl rfl
    | some k => exact .inr (fun e2 => hne k e e2.symm)
  · rcases hA with hA | hA
    · rw [hA] at e2; exact hne k e e2
    · rw [hA] at e2
      have h2 := (World.ownsRow.lt oy k e).2
      simp at e2
      omega
theorem after_y {w2 wA wC : World} {C : Nat} {y v' : Value} {lx ly : List Int} {ob : Obj} (hb : Below w2.heap.size w2 wA) (hle : w2.heap.size ≤ C) (oA : OwnI w2.heap.size wA v' lx) (oy : OwnI C wA y ly) (hne : ∀ k, y.ownBlock = some k → v'.ownBlock ≠ some k)
    (gC : (wA.alloc ob).grownBy wC y.ownBlock) : Below w2.heap.size w2 wC ∧ OwnI w2.heap.size wC v' lx := by
  have b1 : Below w2.heap.size w2 (wA.alloc ob) := hb.alloc hb.size _
  refine ⟨b1.grown gC b1.size (fun k e => Nat.le_trans hle (World.ownsRow.lt oy k e).1), World.ownsRow.kept (World.ownsRow.alloc oA ob) gC ?_⟩
  cases e : v'.ownBlock with
  | none => exact .inl rfl
  | some k => exact .inr (fun e2 => hne k e2.symm e)

def WRel (w2 : World) (C : Nat) (x y : Value) (n m M : Nat) (i : Value) (wr : World) : Prop := ∃ k : Nat, k ≤ M ∧ i = .int .i64 k ∧ Pair w2 C x y n m wr
theorem colsE_or (l : List Int) : colsE l = 0 ∨ colsE l = 1 := by unfold colsE; split <;> simp

set_option maxRecDepth 100000 in
set_option maxHeartbeats 4000000 in
theorem own_walk (W : World) (a0 a1 : Option Addr) (n0 cap0 n1 cap1 : Nat) (o t : List Int) (h0 : Ints W.heap.size W (.slice a0 n0 cap0) o) (h1 : Ints W.heap.size W (.slice a1 n1 cap1) t)
    (z0 : o.length * 8 ≤ 140737488351232) (z1 : t.length * 8 ≤ 140737488351232) (q0 : a0 = none → cap0 = 0) (q1 : a1 = none → cap1 = 0) :
    Calls Try.prog 8 #[.slice a0 n0 cap0, .slice a1 n1 cap1] W fun e w' => e = .returned (.bool true) ∧ Below W.heap.size W w' := by
  have H0 := hide h0
  have H1 := hide h1
  have e0 : n0 = o.length := by obtain ⟨_, _, e, _⟩ := h0; simp only [Value.slice.injEq] at e; exact e.2.1
  have e1 : n1 = t.length := by obtain ⟨_, _, e, _⟩ := h1; simp only [Value.slice.injEq] at e; exact e.2.1
  have Q0 : Hid (a0 = none → o = [] ∧ cap0 = 0) := hide fun e => ⟨h0.none_nil e, q0 e⟩
  have Q1 : Hid (a1 = none → t = [] ∧ cap1 = 0) := hide fun e => ⟨h1.none_nil e, q1 e⟩
  have E0 := hide e0
  have E1 := hide e1
  clear e0 e1 h0 h1 q0 q1
  go_enter Try.func8, Try.ntmps8
  go_wp2_with (first
    | (at_builtin; refine wpList_append_at _ rfl _ _ rfl W.heap.size (.slice none 0 0) [] rfl (OwnI.nil _ _) a0 n0 cap0 o (unhide E0) rfl (unhide Q0) ((unhide H0).cells) (by simp; omega) (Nat.le_refl _) ?_; intro v5 w1 o5 g1 _)
    | (at_builtin; refine wpList_append_at _ rfl _ _ rfl W.heap.size (.slice none 0 0) [] rfl (OwnI.nil _ _) a1 n1 cap1 t (unhide E1) rfl (unhide Q1) (((unhide H1).below ((Below.refl _ _).grown g1 (Nat.le_refl _) (fun k e => by cases e)) (Nat.le_refl _)).cells) (by simp; omega) g1.size ?_; intro v6 w2 o6 g2 _))
  simp only [List.nil_append] at o5 o6
  replace g1 : W.grownBy w1 none := g1
  replace g2 : w1.grownBy w2 none := g2
  have c1 : Below W.heap.size W w1 := (Below.refl _ _).grown g1 (Nat.le_refl _) (fun k e => by cases e)
  have c2 : Below W.heap.size W w2 := c1.grown g2 c1.size (fun k e => by cases e)
  have I5 : Hid (Ints w2.heap.size w2 v5 o) := OwnI.ints (World.ownsRow.kept o5 g2 (by cases v5.ownBlock <;> simp))
  have I6 := hide o6.ints
  clear o5 o6 g1 g2 c1
  refine (turn_any w2.heap.size w2 _ _ o t (Nat.le_refl _) (unhide I5) (unhide I6)).mono ?_
  rintro e w3 ⟨x, rfl, ox, b3⟩
  go_wp2_with fail
  refine (back_any w2.heap.size w3 _ _ o t b3.size ((unhide I5).below b3 (Nat.le_refl _)) ((unhide I6).below b3 (Nat.le_refl _))).mono ?_
  rintro e w4 ⟨y, rfl, oy, b4⟩
  have hP : Pair w2 w3.heap.size x y (turnA o t).length (backA o t).length w4 :=
    ⟨b3.trans (b4.mono b3.size), ⟨_, rfl, OwnI.of_below ox b4⟩, ⟨_, rfl, oy⟩, fun k e => (World.ownsRow.lt ox k e).2, b3.size, b4.size⟩
  have l1 : (turnA o t).length ≤ 8 := turnA_len o t
  have l2 : (backA o t).length ≤ 8 := backA_len o t
  obtain ⟨ax, cx, ex, nx, sx, lx⟩ := ox.shape
  obtain ⟨ay, cy, ey, ny, sy, ly⟩ := oy.shape
  subst ex ey
  have NX : Hid (ax = none → (turnA o t).length = 0 ∧ cx = 0) := hide fun e => ⟨by rw [(nx e).1]; rfl, (nx e).2⟩
  have NY : Hid (ay = none → (backA o t).length = 0 ∧ cy = 0) := hide fun e => ⟨by rw [(ny e).1]; rfl, (ny e).2⟩
  have SX := hide sx
  have SY := hide sy
  clear ox oy b3 b4 nx ny sx sy
  generalize (turnA o t).length = m1 at *
  generalize (backA o t).length = m2 at *
  generalize w3.heap.size = C at *
  have HP := hide hP
  clear hP
  have hcx : m1 ≤ 9223372036854775807 := by omega
  have hcy : m2 ≤ 9223372036854775807 := by omega
  go_wp2_with fail
  go_loopw [25] (fun i wr => WRel w2 C (.slice ax m1 cx) (.slice ay m2 cy) m1 m2 m1 i wr) (fun i _ => m1 - (intOf i).toNat)
  case atStart => exact ⟨0, Nat.zero_le _, rfl, unhide HP⟩
  case round =>
    obtain ⟨k, hk, rfl, hp⟩ := hrel
    clear HP
    by_cases hlt : k < m1
    · obtain ⟨l, el, ol⟩ := hp.xo
      obtain ⟨g, rfl⟩ : ∃ g, ax = some ⟨g, 0, none⟩ := by
        cases hax : ax with
        | none => have := (unhide NX hax).1; omega
        | some ad => obtain ⟨g, e, _⟩ := unhide SX ad hax; exact ⟨g, by rw [e]⟩
      obtain ⟨y0, y1⟩ := ol.cell (j := k) (by omega)
      have HP := hide (hp.setX k (-9))
      generalize l[k]'_ = c0 at y0
      clear hp ol el
      go_wp2_with fail
      go_roundw
      case rel => exact ⟨k + 1, by omega, by go_num, unhide HP⟩
      case measure => simp [intOf]; omega
    · have HP := hide hp
      clear hp
      go_wp2_with fail
      clear hk hlt
      go_loopw [34] (fun i wr => WRel w2 C (.slice ax m1 cx) (.slice ay m2 cy) m1 m2 m2 i wr) (fun i _ => m2 - (intOf i).toNat)
      case atStart => exact ⟨0, Nat.zero_le _, rfl, unhide HP⟩
      case round =>
        obtain ⟨k, hk, rfl, hp⟩ := hrel
        clear HP
        by_cases hlt : k < m2
        · obtain ⟨l, el, ol⟩ := hp.yo
          obtain ⟨g, rfl⟩ : ∃ g, ay = some ⟨g, 0, none⟩ := by
            cases hax : ay with
            | none => have := (unhide NY hax).1; omega
            | some ad => obtain ⟨g, e, _⟩ := unhide SY ad hax; exact ⟨g, by rw [e]⟩
          obtain ⟨y0, y1⟩ := ol.cell (j := k) (by omega)
          have HP := hide (hp.setY k (-9))
          generalize l[k]'_ = c0 at y0
          clear hp ol el
          go_wp2_with fail
          go_roundw
          case rel => exact ⟨k + 1, by omega, by go_num, unhide HP⟩
          case measure => simp [intOf]; omega
        · obtain ⟨lx, elx, ox⟩ := hp.xo
          obtain ⟨ly, ely, oy⟩ := hp.yo
          have HP := hide hp
          have OX := hide ox
          have OY := hide oy
          have ELX := hide elx
          have ELY := hide ely
          clear hp ox oy elx ely
          go_wp2_with (first
            | (at_builtin; refine wpList_append_at _ rfl _ _ rfl w2.heap.size (.slice ax m1 cx) lx rfl (World.ownsRow.alloc (unhide OX) _) (some ⟨wr.heap.size, 0, none⟩) 1 1 [1] rfl rfl (fun e => by cases e) (fun ad e => by cases e; exact cell_one_new _ _ _) (by have := unhide ELX; simp; omega) (by have := (unhide HP).base.size; simp; omega) ?_; intro v43 wA oA gA hA)
            | (at_builtin; refine wpList_append_at _ rfl _ _ rfl C (.slice ay m2 cy) ly rfl (World.ownsRow.alloc ((unhide HP).afterX (unhide OX) (unhide OY) gA hA).2.1 _) (some ⟨wA.heap.size, 0, none⟩) 1 1 [1] rfl rfl (fun e => by cases e) (fun ad e => by cases e; exact cell_one_new _ _ _) (by have := unhide ELY; simp; omega) (by have := ((unhide HP).afterX (unhide OX) (unhide OY) gA hA).2.2.2; simp; omega) ?_; intro v46 wC oC gC _; obtain ⟨a46, c46, e46, n46, _, _⟩ := oC.shape; subst e46)
            | (at_builtin; refine wpList_append_at _ rfl _ _ rfl w2.heap.size v43 (lx ++ [1]) rfl (after_y ((unhide HP).afterX (unhide OX) (unhide OY) gA hA).1 (unhide HP).le oA ((unhide HP).afterX (unhide OX) (unhide OY) gA hA).2.1 ((unhide HP).afterX (unhide OX) (unhide OY) gA hA).2.2.1 gC).2 a46 (ly ++ [1]).length c46 (ly ++ [1]) rfl rfl n46 (oC.ints.cells) (by have := unhide ELX; have := unhide ELY; simp; omega) (after_y ((unhide HP).afterX (unhide OX) (unhide OY) gA hA).1 (unhide HP).le oA ((unhide HP).afterX (unhide OX) (unhide OY) gA hA).2.1 ((unhide HP).afterX (unhide OX) (unhide OY) gA hA).2.2.1 gC).1.size ?_; intro v47 wD oD gD _))
          obtain ⟨bC, oC2⟩ := after_y ((unhide HP).afterX (unhide OX) (unhide OY) gA hA).1 (unhide HP).le oA ((unhide HP).afterX (unhide OX) (unhide OY) gA hA).2.1 ((unhide HP).afterX (unhide OX) (unhide OY) gA hA).2.2.1 gC
          have bD : Below w2.heap.size w2 wD := bC.grown gD bC.size (fun k e => (World.ownsRow.lt oC2 k e).1)
          have cD : Below W.heap.size W wD := c2.trans (bD.mono c2.size)
          have J5 := hide (((unhide I5).below bD (Nat.le_refl _)).mono bD.size)
          have J6 := hide (((unhide I6).below bD (Nat.le_refl _)).mono bD.size)
          clear bC oC2 oD gD n46 oC gC oA gA hA HP OX OY ELX ELY bD
          refine (cols_any wD.heap.size wD _ o (unhide J5)).mono ?_
          rintro e w' ⟨rfl, rfl⟩
          have hce := colsE_or o
          generalize colsN o = p
          generalize colsE o = q at hce
          go_wp2_with fail
          refine (same_any w'.heap.size w' _ _ o o (Nat.le_refl _) (unhide J5) (((unhide H0).below cD (Nat.le_refl _)).mono cD.size)).mono ?_
          rw [sameB_self]
          rintro e wE ⟨rfl, bE⟩
          have cE : Below W.heap.size W wE := cD.trans (bE.mono cD.size)
          have K6 := hide (((unhide J6).below bE (Nat.le_refl _)).mono bE.size)
          clear bE cD J5 J6
          go_wp2_with fail
          refine (same_any wE.heap.size wE _ _ t t (Nat.le_refl _) (unhide K6) (((unhide H1).below cE (Nat.le_refl _)).mono cE.size)).mono ?_
          rw [sameB_self]
          rintro e wF ⟨rfl, bF⟩
          have cF : Below W.heap.size W wF := cE.trans (bF.mono cE.size)
          clear bF cE K6
          rcases hce with rfl | rfl
          all_goals
            go_wp2_with fail
            refine (alive_any wF).mono ?_
            rintro e wG ⟨rfl, bG⟩
            have cG : Below W.heap.size W wG := cF.trans (bG.mono cF.size)
            clear bG cF
            go_wp2_with fail
            go_ret
            exact ⟨rfl, cG⟩
end Go.Proofs.Ytklmhgljhmodlaa
