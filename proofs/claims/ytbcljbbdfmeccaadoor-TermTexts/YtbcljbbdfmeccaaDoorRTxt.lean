/- The document's text of a value, walked. -/
import Derived.Test.YtbcljbbdfmeccaaDoorByteM
namespace Go.Proofs.YtbcljbbdfmeccaaDoor
open Go.RowKit Go.ChangeShapes Go.WideShapes

theorem strCells_bytes (s : ByteArray) : Lib.strCells s = byteVals s.data.toList := rfl

section
variable {ops : Array Oper} {rest : List Oper} {o : Oper} {a : Act} {Q : Exit → Act → World → Prop} {w : World}
theorem wpList_textB (hgd : o.guard = none) (sl x : Operand) (ho : o.op = .call { callee := .builtin .append, args := #[sl, x], argTypes := #[57, 9] })
    {base : Nat} {v : Value} {l : List UInt8} (hs : a.eval sl = v) (hown : OwnB w base v (byteVals l)) (s : ByteArray) (hx : a.eval x = .string s) (h48 : l.length + s.size ≤ 140737488355328) (hbase : base ≤ w.heap.size)
    (h : ∀ v' w', OwnB w' base v' (byteVals (l ++ s.data.toList)) → w.grownBy w' v.ownBlock → wpList Tryd.prog ops Q rest (a.put o.dst v') w') : wpList Tryd.prog ops Q (o :: rest) a w := by
  refine wpList_plain hgd fun K hK => ?_
  obtain ⟨v', w', hr, h2, h3⟩ := hown.text s o.type (by simpa [byteVals] using h48) hbase
  unfold Oper.wp execOp
  simp only [ho, resolve, invoke, builtin, Sem.run_bind, Sem.run_pure, Result.andThen_ok, List.map_toArray, List.map_cons, List.map_nil, hs, hx, hr]
  refine hK _ _ (h v' w' ?_ h3)
  rw [byteVals_app, ← strCells_bytes]; exact h2
theorem wpList_byteB (hgd : o.guard = none) (sl x : Operand) (ho : o.op = .call { callee := .builtin .append, args := #[sl, x], argTypes := #[57, 57] })
    {base : Nat} {v : Value} {l : List UInt8} (hs : a.eval sl = v) (hown : OwnB w base v (byteVals l)) (ad : Addr) (c : Nat) (b : UInt8) (hx : a.eval x = .slice (some ad) 1 c) (hc : w.cell? ad = some (.int .u8 b.toNat)) (h48 : l.length + 1 ≤ 140737488355328) (hbase : base ≤ w.heap.size)
    (h : ∀ v' w', OwnB w' base v' (byteVals (l ++ [b])) → w.grownBy w' v.ownBlock → wpList Tryd.prog ops Q rest (a.put o.dst v') w') : wpList Tryd.prog ops Q (o :: rest) a w := by
  refine wpList_plain hgd fun K hK => ?_
  obtain ⟨v', w', hr, h2, h3⟩ := hown.byte ad c _ hc rfl o.type (by simpa [byteVals] using h48) hbase
  unfold Oper.wp execOp
  simp only [ho, resolve, invoke, builtin, Sem.run_bind, Sem.run_pure, Result.andThen_ok, List.map_toArray, List.map_cons, List.map_nil, hs, hx, hr]
  refine hK _ _ (h v' w' ?_ h3)
  rw [byteVals_app]; exact h2
end

theorem conv_back {wr : World} {B : Nat} {v : Value} {bs : List UInt8} (h : OwnB wr B v (byteVals bs)) : (convert 57 9 v).run Tryd.prog wr = .ok (.string ⟨bs.toArray⟩) wr := by
  have hc := h
  obtain ⟨g, cap, cur, fz, rfl, _⟩ := h
  have e : (byteVals bs).length = bs.length := by simp [byteVals]
  rw [e] at hc ⊢
  refine run_convert_bytes_back wr 57 9 5 ⟨g, 0, none⟩ cap bs Tryd.underlying57 Tryd.underlying5 Tryd.underlying9 fun j hj => ?_
  exact hc.cells j _ (by simp [byteVals, hj])

/-- The row that a conversion of a text leaves. -/
theorem conv_row (w : World) (B : Nat) (s : ByteArray) (hB : B ≤ w.heap.size) (hs : s.size ≤ 1000) : OwnB (Lib.bytesWorld w 5 s) B (.slice (some ⟨w.heap.size, 0, none⟩) s.size (grownCap w s.size 0 5)) (byteVals s.data.toList) := by
  have e : (byteVals s.data.toList).length = s.size := by simp [byteVals]
  have hge := grownCap_ge w s.size 0 5
  have hle := grownCap_le_maxLen w s.size 0 5 (by unfold maxLen; omega)
  have hcs : (Lib.bytesCells w 5 s).size = grownCap w s.size 0 5 := by
    unfold Lib.bytesCells
    simp only [Array.size_append, Array.size_map, Array.size_replicate]
    show s.size + _ = _
    omega
  refine ⟨w.heap.size, grownCap w s.size 0 5, Lib.bytesCells w 5 s, _, by rw [e], hB, Lib.bytesWorld_at_new w 5 s, fun j _ h2 h3 => by have := h3.1; simp only at this; omega, by rw [e]; exact hge, hle, hcs, ?_⟩
  rw [e]
  unfold Lib.bytesCells byteVals
  simp only [Array.toList_append, Array.toList_map]
  rw [List.take_append_of_le_length (by simp)]
  rw [List.take_of_length_le (by simp)]
theorem conv_below (w : World) (s : ByteArray) : Below w.heap.size w (Lib.bytesWorld w 5 s) :=
  ⟨rfl, rfl, rfl, by rw [Lib.bytesWorld_size]; omega, fun k hk => Lib.bytesWorld_at_old w 5 s k hk⟩

structure RT (w : World) (v : V) (A : Option Addr) (l : List UInt8) (bv : Value) (wr : World) : Prop where
  own : OwnB wr (w.heap.size + 1) bv (byteVals l)
  bw : Below w.heap.size w wr
  z3 : wr.cell? ⟨w.heap.size, 3, none⟩ = some (.slice A v.len v.cap)
  sz : w.heap.size + 1 ≤ wr.heap.size
theorem RT.later {w wr w2 : World} {v : V} {A : Option Addr} {l : List UInt8} {bv : Value} (h : RT w v A l bv wr) (b : Below wr.heap.size wr w2) : RT w v A l bv w2 :=
  ⟨h.own.below b, h.bw.trans (b.mono (by have := h.sz; omega)), (b.cell (p := ⟨w.heap.size, 3, none⟩) (by have := h.sz; show w.heap.size < _; omega)).trans h.z3, Nat.le_trans h.sz b.size⟩
theorem RT.grown {w wr w2 : World} {v : V} {A : Option Addr} {l l' : List UInt8} {bv bv' : Value} (h : RT w v A l bv wr) (hg : wr.grownBy w2 bv.ownBlock) (ho : OwnB w2 (w.heap.size + 1) bv' (byteVals l')) : RT w v A l' bv' w2 :=
  ⟨ho, h.bw.grown hg (by have := h.sz; omega) (fun j hj => by have := (h.own.lt j hj).1; omega), by
    have : w2.cell? ⟨w.heap.size, 3, none⟩ = wr.cell? ⟨w.heap.size, 3, none⟩ := World.cell?_of_block (hg.block _ (by have := h.sz; show w.heap.size < _; omega) (fun e => by have := (h.own.lt _ e.symm).1; simp at this; omega))
    exact this.trans h.z3, Nat.le_trans h.sz hg.size⟩

/-- The text of one that may be. -/
def RTxtC (v : V) : Prop := ∀ (B : Nat) (w : World) (d : Nat), v.At B w → B ≤ w.heap.size → v.may d = true → 131100 * v.size ≤ 1000000000000 →
  Calls Tryd.prog 34 #[v.val] w fun e w' => e = .returned (.string ⟨v.text.toArray⟩) ∧ Below w.heap.size w w'

set_option maxRecDepth 100000 in
set_option maxHeartbeats 4000000 in
theorem rtext_con (v : V) (ih : ∀ i, i < v.len → RTxtC (v.kid i)) (B : Nat) (w : World) (d : Nat) (hat : v.At B w) (hB : B ≤ w.heap.size) (hm : v.may d = true) (hlen : 131100 * v.size ≤ 1000000000000) (hk : v.kind = 3) :
    Calls Tryd.prog 34 #[v.val] w fun e w' => e = .returned (.string ⟨v.text.toArray⟩) ∧ Below w.heap.size w w' := by
  have hmk := hm
  rw [may_con hk] at hmk
  simp only [Bool.and_eq_true, decide_eq_true_eq] at hmk
  obtain ⟨⟨⟨⟨hg1, hg2⟩, hwd⟩, h8⟩, hkids⟩ := hmk
  clear hg1 hg2
  have hs := wd_size hwd
  have hl := hat.flat.l
  have HT := hide (V.text_con hk)
  have IH := hide ih
  have HM : Hid (∀ i, i < v.len → (v.kid i).may (d - 1) = true) := fun i hi => (allTo_iff _ _).1 hkids i hi
  have HSZ := hide (V.size_eq v)
  have HJ : Hid (∀ k, k ≤ v.len → (joinTo (fun i => (v.kid i).text) k).length ≤ 131100 * sumTo (fun i => (v.kid i).size) k + 2 * k) := fun k hk2 =>
    joinTo_len (fun i hi => text_len _ B w (d - 1) (hat.kid i (by omega)) ((allTo_iff _ _).1 hkids i (by omega)))
  have HSTR : Hid (((⟨#[36]⟩ : ByteArray) ++ v.str ++ (⟨#[40]⟩ : ByteArray)).data.toList = [36] ++ v.str.data.toList ++ [40]) := by
    show _ = _
    rw [append_data, append_data]
  have HSS : Hid (((⟨#[36]⟩ : ByteArray) ++ v.str ++ (⟨#[40]⟩ : ByteArray)).size ≤ 66) := by
    show _ ≤ _
    rw [append_size, append_size]
    have e1 : (⟨#[36]⟩ : ByteArray).size = 1 := rfl
    have e2 : (⟨#[40]⟩ : ByteArray).size = 1 := rfl
    omega
  clear hm hkids ih hwd
  unfold V.val
  generalize hA : v.addr = A
  have HA := hide hA
  have hcv := Lib.run_convert_string_bytes (P := Tryd.prog) (w.alloc (.cells #[.int .i64 3, .int .i64 v.num, .string v.str, .slice A v.len v.cap] 24)) 9 57 5 ((⟨#[36]⟩ : ByteArray) ++ v.str ++ (⟨#[40]⟩ : ByteArray)) Tryd.underlying9 Tryd.underlying57 Tryd.underlying5
  have HX : Hid (v.obj = .cells #[.int .i64 3, .int .i64 v.num, .string v.str, .slice A v.len v.cap] 24) := by
    show _ = _
    unfold V.obj; rw [hk, hA]
  have HS : Hid (RT w v A (([36] ++ v.str.data.toList ++ [40]) ++ joinTo (fun i => (v.kid i).text) 0) (.slice (some ⟨w.heap.size + 1, 0, none⟩) (1 + v.str.size + 1) (grownCap (w.alloc (.cells #[.int .i64 3, .int .i64 v.num, .string v.str, .slice A v.len v.cap] 24)) (1 + v.str.size + 1) 0 5))
      (Lib.bytesWorld (w.alloc (.cells #[.int .i64 3, .int .i64 v.num, .string v.str, .slice A v.len v.cap] 24)) 5 ((⟨#[36]⟩ : ByteArray) ++ v.str ++ (⟨#[40]⟩ : ByteArray)))) := by
    show RT _ _ _ _ _ _
    rw [← unhide HX]
    have hsz : ((⟨#[36]⟩ : ByteArray) ++ v.str ++ (⟨#[40]⟩ : ByteArray)).size = 1 + v.str.size + 1 := by rw [append_size, append_size]; rfl
    have h1 := conv_row (w.alloc v.obj) (w.heap.size + 1) ((⟨#[36]⟩ : ByteArray) ++ v.str ++ (⟨#[40]⟩ : ByteArray)) (by simp) (by have := unhide HSS; omega)
    rw [unhide HSTR, hsz, show (w.alloc v.obj).heap.size = w.heap.size + 1 by simp] at h1
    have h2 := conv_below (w.alloc v.obj) ((⟨#[36]⟩ : ByteArray) ++ v.str ++ (⟨#[40]⟩ : ByteArray))
    rw [show (w.alloc v.obj).heap.size = w.heap.size + 1 by simp] at h2
    have h3 := ((boxed w v).below h2 (by omega)).z.2.2.2
    rw [unhide HA] at h3
    refine ⟨by simpa [joinTo] using h1, (below_box w v.obj).trans (h2.mono (by omega)), h3, ?_⟩
    rw [Lib.bytesWorld_size]; simp
  clear hA
  rw [hk]
  clear hk
  have HB := hide hB
  have HAT := hide hat
  have hstr : v.str.data.toList.length ≤ 64 := by
    have e : v.str.data.toList.length = v.str.size := by rw [Array.length_toList]; rfl
    omega
  have HLN : Hid (∀ k, k ≤ v.len → (([36] ++ v.str.data.toList ++ [40]) ++ joinTo (fun i => (v.kid i).text) k).length + 131100 ≤ 2000000000000) := fun k hk => by
    have h1 := unhide HJ k hk
    have h2 := sumTo_mono (f := fun i => (v.kid i).size) (i := k) (n := v.len) hk
    have h3 := unhide HSZ
    simp only [List.length_append, List.length_cons, List.length_nil]; omega
  have HKL : Hid (∀ k, k < v.len → 131100 * (v.kid k).size ≤ 1000000000000 ∧ (v.kid k).text.length ≤ 1000000000000) := fun k hk => by
    have h2 := sumTo_mono (f := fun i => (v.kid i).size) (i := k + 1) (n := v.len) (by omega)
    have h3 := unhide HSZ
    simp only [sumTo] at h2
    have h4 : 131100 * (v.kid k).size ≤ 1000000000000 := by omega
    exact ⟨h4, Nat.le_trans (text_len _ B w (d - 1) (hat.kid k hk) (unhide HM k hk)) h4⟩
  clear hstr hat hB hlen HSZ HJ HSTR HSS HX
  go_enter Tryd.func34, Tryd.ntmps34
  go_wp2_with fail
  clear hcv
  go_loopw [3, 4] (fun bv i wr => ∃ k : Nat, k ≤ v.len ∧ i = .int .i64 k ∧ Hid (RT w v A (([36] ++ v.str.data.toList ++ [40]) ++ joinTo (fun i => (v.kid i).text) k) bv wr)) (fun _ i _ => v.len - (intOf i).toNat)
  case atStart => exact ⟨0, Nat.zero_le _, rfl, HS⟩
  case round =>
    obtain ⟨k, hk, rfl, hR⟩ := hrel
    clear HS
    have z3 := (unhide hR).z3
    by_cases hlt : k < v.len
    · by_cases h0 : k = 0
      · have e0 : ¬ 0 < k := by omega
        have H0 := hide h0
        have hatr := (unhide HAT).below ((unhide hR).bw.mono (unhide HB))
        obtain ⟨g, og, ha, hg, hc⟩ := hatr.flat.at_ k hlt
        rw [unhide HA] at ha
        subst ha
        have c0 := hc.c0
        have c1 := hc.c1
        have c2 := hc.c2
        have c3 := hc.c3
        have CALL := hide (unhide IH k hlt B _ (d - 1) (hatr.kid k hlt) (Nat.le_trans (unhide HB) (unhide hR).bw.size) (unhide HM k hlt) (unhide HKL k hlt).1)
        clear h0 hc hatr
        go_wp2_with fail
        refine (unhide CALL).mono ?_
        rintro e w2 ⟨rfl, b2⟩
        have hR2 := hide ((unhide hR).later b2)
        clear z3 c0 c1 c2 c3 CALL b2 hR
        go_wp2_with (at_builtin; refine wpList_textB rfl _ _ rfl rfl (unhide hR2).own _ rfl (by have h1 := unhide HLN k hk; have h2 := (unhide HKL k hlt).2; simp only [List.size_toArray, ByteArray.size]; omega) (unhide hR2).sz ?_; intro v' w3 ho hgr; have hF := hide ((unhide hR2).grown hgr ho); clear ho hgr)
        go_roundw
        case rel =>
          refine ⟨k + 1, by omega, by go_num, ?_⟩
          have := unhide hF
          show RT _ _ _ _ _ _
          simp only [joinTo]
          rw [if_pos (unhide H0), List.nil_append, ← List.append_assoc]; simpa using this
        case measure => simp [intOf]; omega
      · have e0 : 0 < k := by omega
        have H0 := hide h0
        clear h0
        have C2 : Hid ((([36] ++ v.str.data.toList ++ [40]) ++ joinTo (fun i => (v.kid i).text) k).length + 2 ≤ 140737488355328) := by have h1 := unhide HLN k hk; show _ ≤ _; omega
        go_wp2_with (at_builtin; refine wpList_textB rfl _ _ rfl rfl (unhide hR).own ⟨#[44, 32]⟩ rfl (unhide C2) (unhide hR).sz ?_; intro v1 w1 ho hgr; have hR1 := hide ((unhide hR).grown hgr ho); clear ho hgr z3 hR; have z3 := (unhide hR1).z3
                     have hatr := (unhide HAT).below ((unhide hR1).bw.mono (unhide HB))
                     obtain ⟨g, og, ha, hg, hc⟩ := hatr.flat.at_ k hlt
                     rw [unhide HA] at ha
                     subst ha
                     have c0 := hc.c0
                     have c1 := hc.c1
                     have c2 := hc.c2
                     have c3 := hc.c3
                     have CALL := hide (unhide IH k hlt B _ (d - 1) (hatr.kid k hlt) (Nat.le_trans (unhide HB) (unhide hR1).bw.size) (unhide HM k hlt) (unhide HKL k hlt).1)
                     clear hc hatr)
        refine (unhide CALL).mono ?_
        rintro e w2 ⟨rfl, b2⟩
        have hR2 := hide ((unhide hR1).later b2)
        clear z3 c0 c1 c2 c3 CALL b2 hR1
        go_wp2_with (at_builtin; refine wpList_textB rfl _ _ rfl rfl (unhide hR2).own _ rfl (by have h1 := unhide HLN k hk; have h2 := (unhide HKL k hlt).2; rw [List.length_append]; simp only [List.size_toArray, ByteArray.size, List.length_cons, List.length_nil]; omega) (unhide hR2).sz ?_; intro v' w3 ho hgr; have hF := hide ((unhide hR2).grown hgr ho); clear ho hgr)
        go_roundw
        case rel =>
          refine ⟨k + 1, by omega, by go_num, ?_⟩
          have := unhide hF
          show RT _ _ _ _ _ _
          simp only [joinTo]
          rw [if_neg (unhide H0), ← List.append_assoc, ← List.append_assoc]; simpa using this
        case measure => simp [intOf]; omega
    · have hke : k = v.len := by omega
      subst hke
      have C2 : Hid ((([36] ++ v.str.data.toList ++ [40]) ++ joinTo (fun i => (v.kid i).text) v.len).length + 1 ≤ 140737488355328) := by have h1 := unhide HLN _ hk; show _ ≤ _; omega
      go_wp2_with (at_builtin; refine wpList_byteB rfl _ _ rfl rfl ((unhide hR).later ((Below.refl _ _).alloc (Nat.le_refl _) (.cells #[.int .u8 41] 5))).own ⟨wr.heap.size, 0, none⟩ 1 41 rfl (by have h := World.alloc_heap_new wr (.cells #[.int .u8 41] 5); simp only [World.cell?]; rw [h]; rfl) (unhide C2) (by have := (unhide hR).sz; simp; omega) ?_; intro v1 w1 ho hgr
                   have hR1 := hide (((unhide hR).later ((Below.refl _ _).alloc (Nat.le_refl _) (.cells #[.int .u8 41] 5))).grown hgr ho)
                   have hcv := conv_back (unhide hR1).own
                   clear ho hgr z3 hR)
      have bw := (unhide hR1).bw
      clear hR1
      go_ret
      exact ⟨ret_str (by rw [unhide HT]; simp), bw⟩
end Go.Proofs.YtbcljbbdfmeccaaDoor
