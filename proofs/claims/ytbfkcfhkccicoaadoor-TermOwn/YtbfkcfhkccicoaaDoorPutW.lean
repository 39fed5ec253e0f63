/- Walk of putting a value: held.put of a Con. -/
import Derived.Test.YtbfkcfhkccicoaaDoorPutV
namespace Go.Proofs.YtbfkcfhkccicoaaDoor
open Go.RowKit Go.Maps Go.WideMaps

/-- The Args of a value, put one behind another. -/
abbrev args (v : V) (k : Nat) (S : SS) : PS := argsTo (fun i S => (v.kid i).putV S) k S

/-- Between two Args: the store, the node's block, the value's box. -/
structure PR (W : World) (v : V) (B : Nat) (p : SP) (S : SS) (k : Nat) (wr : World) (q : SP) : Prop where
  sto : Sto wr q (args v k S).S
  step : Step W wr p q
  err : (args v k S).err = 0
  ok : (args v k S).S.Ok
  bits : ∀ j, j < k → Bits ((args v k S).nums j)
  node : NB wr (W.heap.size + 1) (nodeAt v (args v k S).nums k)
  box : CellsAt wr W.heap.size 0 v
  g0 : ¬ q.own W.heap.size
  g1 : ¬ q.own (W.heap.size + 1)
  sz : W.heap.size + 2 ≤ wr.heap.size
  at_ : v.At B wr

theorem node_start (v : V) : (Obj.cells ((nodeAt v (fun _ => 0) 0).list.map (Value.int .i64)).toArray 81) = .cells #[.int .i64 0, .int .i64 (v.len : Int), .int .i64 0, .int .i64 0, .int .i64 0, .int .i64 0, .int .i64 0, .int .i64 0, .int .i64 0, .int .i64 0,
    .int .i64 0, .int .i64 0, .int .i64 0, .int .i64 0, .int .i64 0, .int .i64 0, .int .i64 0, .int .i64 0] 81 := rfl

theorem pr_start {W : World} {v : V} {B : Nat} {p : SP} {S : SS} (hat : v.At B W) (hB : B ≤ W.heap.size) (h : Sto W p S) (ok : S.Ok) (o : Obj) (ho : o = .cells ((nodeAt v (fun _ => 0) 0).list.map (Value.int .i64)).toArray 81) :
    PR W v B p S 0 ((W.alloc v.obj).alloc o) p := by
  subst ho
  have b1 := below_box W v.obj
  have b2 := below_box (W.alloc v.obj) (.cells ((nodeAt v (fun _ => 0) 0).list.map (Value.int .i64)).toArray 81)
  have e1 : (W.alloc v.obj).heap.size = W.heap.size + 1 := by simp
  have bb := b1.trans (b2.mono (by omega))
  refine ⟨h.later bb, (Step.refl W p).after bb, rfl, ok, fun j hj => absurd hj (Nat.not_lt_zero j), ?_, (boxed W v).below b2 (by omega), fun e => ?_, fun e => ?_, by simp, hat.below (bb.mono hB)⟩
  · have := nb_alloc (W.alloc v.obj) (nodeAt v (fun _ => 0) 0)
    rw [e1] at this
    exact this
  · have := (h.own_lt _ e).2; omega
  · have := (h.own_lt _ e).2; omega

/-- One Arg more was put, and its kind and number set. -/
theorem pr_next {W : World} {v : V} {B : Nat} {p : SP} {S : SS} {k : Nat} {wr w2 : World} {q q' : SP} (hB : B ≤ W.heap.size) (hsb : p.sb < W.heap.size) (hu : ∀ j, v.uses j → ¬ p.own j) (hk : k < v.len) (h8 : v.len ≤ 8) {d : Nat} (hm : (v.kid k).may d = true) (h : PR W v B p S k wr q)
    (hs : Sto w2 q' ((v.kid k).putV (args v k S).S).2) (st : Step (wr.alloc (v.kid k).obj) w2 q q') (he : ((v.kid k).putV (args v k S).S).1.2 = 0) (hok : ((v.kid k).putV (args v k S).S).2.Ok) :
    PR W v B p S (k + 1) ((w2.setCell ⟨W.heap.size + 1, 2 + k, none⟩ (.int .i64 (v.kid k).kind)).setCell ⟨W.heap.size + 1, 10 + k, none⟩ (.int .i64 ((v.kid k).putV (args v k S).S).1.1)) q' := by
  have b1 := below_box wr (v.kid k).obj
  have e1 : (wr.alloc (v.kid k).obj).heap.size = wr.heap.size + 1 := by simp
  have st2 : Step wr w2 q q' := st.before b1
  have hsz := h.sz
  have nown : ∀ j, j < wr.heap.size → ¬ q.own j → ¬ q'.own j := fun j hj hn e => (st.own j e).elim hn (fun e => by omega)
  have g0' := nown _ (by omega) h.g0
  have g1' := nown _ (by omega) h.g1
  have ea : args v (k + 1) S = ⟨((v.kid k).putV (args v k S).S).2, fun j => if j = k then ((v.kid k).putV (args v k S).S).1.1 else (args v k S).nums j, ((v.kid k).putV (args v k S).S).1.2⟩ := by
    show argsTo _ (k + 1) S = _
    rw [argsTo_succ, if_pos h.err]
  have t1 : Turn (· = W.heap.size + 1) w2 ((w2.setCell ⟨W.heap.size + 1, 2 + k, none⟩ (.int .i64 (v.kid k).kind)).setCell ⟨W.heap.size + 1, 10 + k, none⟩ (.int .i64 ((v.kid k).putV (args v k S).S).1.1)) :=
    (Turn.setCell (S := fun x => x = W.heap.size + 1) _ _ _ rfl).trans (Turn.setCell (S := fun x => x = W.heap.size + 1) _ _ _ rfl) (fun _ _ e => e)
  have hbits : Bits ((v.kid k).putV (args v k S).S).1.1 := putV_bits (h.at_.kid k hk) hm hs.T1.len hs.len
  have stW : Step W w2 p q' := h.step.trans st2
  refine ⟨?_, ⟨stW.turn.trans t1 (fun i hi e => by omega), stW.own, stW.sb, stW.hb, stW.base⟩, ?_, ?_, ?_, ?_, ?_, g0', g1', Nat.le_trans hsz (by have := st2.turn.size; have := t1.size; omega), ?_⟩
  · rw [ea]
    exact hs.stays t1 (fun j e e2 => by
      subst e2
      rcases e with e | e
      · have e5 : q'.sb = q.sb := st.sb
        have e6 : q.sb = p.sb := h.step.sb
        omega
      · exact g1' e)
  · rw [ea]; exact he
  · rw [ea]; exact hok
  · rw [ea]
    intro j hj
    show Bits (if j = k then _ else _)
    split
    · exact hbits
    · exact h.bits j (by omega)
  · rw [ea]
    show NB _ _ (nodeAt v (fun j => if j = k then _ else _) (k + 1))
    rw [← nodeAt_step v (args v k S).nums k _ (by omega)]
    have n1 : NB w2 (W.heap.size + 1) (nodeAt v (args v k S).nums k) := h.node.turn st2.turn h.g1
    exact (n1.set (i := 2 + k) (by omega) _).set (i := 10 + k) (by omega) _
  · have hb2 : CellsAt w2 W.heap.size 0 v := h.box.stays (fun a u ha hu2 => by
      have : w2.cell? a = wr.cell? a := by simp only [World.cell?]; rw [st2.turn.block _ (World.block_lt_of_cell? wr a hu2) (by rw [ha]; exact h.g0)]
      exact this.trans hu2)
    exact hb2.stays (fun a u ha hu2 => by
      have e7 : ∀ (w : World) (i : Nat) (x : Value), (w.setCell ⟨W.heap.size + 1, i, none⟩ x).cell? a = w.cell? a := fun w i x => by
        simp only [World.cell?]
        rw [Below.heap_setCell w ⟨W.heap.size + 1, i, none⟩ x a.block (by rw [ha]; simp)]
      rw [e7, e7]; exact hu2)
  · exact V.At.turn' (Q := fun j => q.own j ∨ j = W.heap.size + 1) ((st2.turn.mono (fun j e => .inl e)).trans t1 (fun j _ e => .inr e)) v h.at_ (fun j hj e => by
      have hlt := V.uses_lt v h.at_ j hj
      rcases e with e | e
      · exact (h.step.own j e).elim (hu j hj) (fun e => by omega)
      · omega)
end Go.Proofs.YtbfkcfhkccicoaaDoor
