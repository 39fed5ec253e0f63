/- syn: comp, what it stores. syn: a component with bases. syn: a component without bases. -/
import Derived.Test.YtdjehbdpcdikkaaGreatDoorMt18
import Derived.Test.YtdjehbdpcdikkaaGreatDoorMt02
import Derived.Deep.WholeRow
namespace Go.Proofs.YtdjehbdpcdikkaaGreatDoor
open Go.RowKit Go.Maps

abbrev coZ : Obj := .cells #[.string ⟨#[]⟩, .slice none 0 0, .slice none 0 0, .slice none 0 0, .slice none 0 0, .slice none 0 0, .slice none 0 0, .int .i64 0] 70
theorem cl8 {w : World} {b : Nat} {T : TypeId} {v0 v1 v2 v3 v4 v5 v6 v7 : Value} (h : w.heap[b]? = some (.cells #[v0, v1, v2, v3, v4, v5, v6, v7] T (0, 0))) :
  w.cell? ⟨b, 0, none⟩ = some v0 ∧ w.cell? ⟨b, 1, none⟩ = some v1 ∧ w.cell? ⟨b, 2, none⟩ = some v2 ∧ w.cell? ⟨b, 3, none⟩ = some v3 ∧ w.cell? ⟨b, 4, none⟩ = some v4 ∧ w.cell? ⟨b, 5, none⟩ = some v5 ∧ w.cell? ⟨b, 6, none⟩ = some v6 ∧ w.cell? ⟨b, 7, none⟩ = some v7 ∧ ∀ o, w.frozen? ⟨b, o, none⟩ = false :=
 ⟨(cell_hp h 0).trans rfl, (cell_hp h 1).trans rfl, (cell_hp h 2).trans rfl, (cell_hp h 3).trans rfl, (cell_hp h 4).trans rfl, (cell_hp h 5).trans rfl, (cell_hp h 6).trans rfl, (cell_hp h 7).trans rfl, fun o => by simp [World.frozen?, h]⟩
def coStore (p v : Value) : Sem Unit := Instr.storeAt 70 p v
theorem storeAt_co (p v : Value) : Instr.storeAt 70 p v = coStore p v := rfl
def coLoad (x : Value) : Sem Value := Instr.loadAt 70 x
theorem loadAt_co (x : Value) : Instr.loadAt 70 x = coLoad x := rfl
theorem size_co : (Tryz.prog.info? 70).map (·.size) = some 8 := by kernel_rfl
theorem co_new (w : World) (a : Int) : (coStore (.pointer (some ⟨w.heap.size, 0, none⟩)) (.agg #[.string ⟨#[]⟩, .slice none 0 0, .slice none 0 0, .slice none 0 0, .slice none 0 0, .slice none 0 0, .slice none 0 0, .int .i64 a])).run Tryz.prog (w.alloc (.cells #[.string ⟨#[]⟩, .slice none 0 0, .slice none 0 0, .slice none 0 0, .slice none 0 0, .slice none 0 0, .slice none 0 0, .int .i64 0] 70)) = .ok () (w.alloc (.cells #[.string ⟨#[]⟩, .slice none 0 0, .slice none 0 0, .slice none 0 0, .slice none 0 0, .slice none 0 0, .slice none 0 0, .int .i64 a] 70)) :=
 run_storeAt_new w 70 _ _ size_co rfl (by simp [Value.oneCell'])
/-- A list's value is a slice. -/
theorem LsAt.sl {α : Type} {p : PS α} {k : Nat} {S : Nat → Prop} {w : World} {v : Value} {xs : List α} (h : LsAt p k S w v xs) : ∃ a c, v = .slice a xs.length c := by
 obtain ⟨a, c, _, e, _⟩ := h
 exact ⟨a, c, e⟩
theorem pco_one {S : Nat → Prop} {w : World} {cs : List Value} {x : Cp} (h : PCo S w cs x) : ∀ c ∈ cs, c.oneCell' = true := by
 obtain ⟨vb, bd, rfl, h2, h3, h4⟩ := h
 obtain ⟨v0, v1, v2, v3, v4, rfl, g0, g1, g2, g3, g4⟩ := h4.cells
 obtain ⟨_, _, rfl⟩ := h3.sl
 obtain ⟨_, _, rfl⟩ := g0.sl
 obtain ⟨_, _, rfl⟩ := g1.sl
 obtain ⟨_, _, rfl⟩ := g2.sl
 obtain ⟨_, _, rfl⟩ := g3.sl
 obtain ⟨_, _, rfl⟩ := g4.sl
 simp [Value.oneCell', str]
set_option maxHeartbeats 2000000 in
/-- A component is loaded, and stored in the result. -/
theorem co_end {rb e dp xb : Nat} {w w8 : World} {l : List Tok} {it : Nat} {x : Cp} {S : Nat → Prop} {v0 v1 v2 v3 v4 v5 v6 v7 : Value} (n8 : w8.heap[xb]? = some (.cells #[v0, v1, v2, v3, v4, v5, v6, v7] 70 (0, 0))) (q8 : w8.heap[w.heap.size]? = some coZ) (hX : PCo S w8 [v0, v1, v2, v3, v4, v5, v6, v7] x) (hS : ∀ b, S b → w.heap.size ≤ b ∧ b ≠ w.heap.size) (hR : Rd rb e w8 l it dp) (k : Kp rb w w8) (hrb : rb < w.heap.size) :
  ∃ w9, (coLoad (.pointer (some ⟨xb, 0, none⟩))).run Tryz.prog w8 = .ok (.agg #[v0, v1, v2, v3, v4, v5, v6, v7]) w8 ∧ (coStore (.pointer (some ⟨w.heap.size, 0, none⟩)) (.agg #[v0, v1, v2, v3, v4, v5, v6, v7])).run Tryz.prog w8 = .ok () w9 ∧ w9.heap[w.heap.size]? = some (.cells #[v0, v1, v2, v3, v4, v5, v6, v7] 70 (0, 0)) ∧ PCo (fun b => w.heap.size ≤ b) w9 [v0, v1, v2, v3, v4, v5, v6, v7] x ∧ Rd rb e w9 l it dp ∧ Kp rb w w9 := by
 have hsame : ∀ b, b ≠ w.heap.size → ((((((((w8.setCell ⟨w.heap.size, 0, none⟩ (v0)).setCell ⟨w.heap.size, 1, none⟩ (v1)).setCell ⟨w.heap.size, 2, none⟩ (v2)).setCell ⟨w.heap.size, 3, none⟩ (v3)).setCell ⟨w.heap.size, 4, none⟩ (v4)).setCell ⟨w.heap.size, 5, none⟩ (v5)).setCell ⟨w.heap.size, 6, none⟩ (v6)).setCell ⟨w.heap.size, 7, none⟩ (v7)).heap[b]? = w8.heap[b]? := fun b hb => by
  rw [Below.heap_setCell _ _ _ _ hb, Below.heap_setCell _ _ _ _ hb, Below.heap_setCell _ _ _ _ hb, Below.heap_setCell _ _ _ _ hb, Below.heap_setCell _ _ _ _ hb, Below.heap_setCell _ _ _ _ hb, Below.heap_setCell _ _ _ _ hb, Below.heap_setCell _ _ _ _ hb]
 have hF : PCo (fun b => w.heap.size ≤ b) ((((((((w8.setCell ⟨w.heap.size, 0, none⟩ (v0)).setCell ⟨w.heap.size, 1, none⟩ (v1)).setCell ⟨w.heap.size, 2, none⟩ (v2)).setCell ⟨w.heap.size, 3, none⟩ (v3)).setCell ⟨w.heap.size, 4, none⟩ (v4)).setCell ⟨w.heap.size, 5, none⟩ (v5)).setCell ⟨w.heap.size, 6, none⟩ (v6)).setCell ⟨w.heap.size, 7, none⟩ (v7)) [v0, v1, v2, v3, v4, v5, v6, v7] x ∧ Rd rb e ((((((((w8.setCell ⟨w.heap.size, 0, none⟩ (v0)).setCell ⟨w.heap.size, 1, none⟩ (v1)).setCell ⟨w.heap.size, 2, none⟩ (v2)).setCell ⟨w.heap.size, 3, none⟩ (v3)).setCell ⟨w.heap.size, 4, none⟩ (v4)).setCell ⟨w.heap.size, 5, none⟩ (v5)).setCell ⟨w.heap.size, 6, none⟩ (v6)).setCell ⟨w.heap.size, 7, none⟩ (v7)) l it dp ∧ Kp rb w ((((((((w8.setCell ⟨w.heap.size, 0, none⟩ (v0)).setCell ⟨w.heap.size, 1, none⟩ (v1)).setCell ⟨w.heap.size, 2, none⟩ (v2)).setCell ⟨w.heap.size, 3, none⟩ (v3)).setCell ⟨w.heap.size, 4, none⟩ (v4)).setCell ⟨w.heap.size, 5, none⟩ (v5)).setCell ⟨w.heap.size, 6, none⟩ (v6)).setCell ⟨w.heap.size, 7, none⟩ (v7)) := ⟨pco_ok.mono _ _ _ _ _ (pco_ok.same _ _ _ _ _ hX (by simp [World.setCell]) (fun b hb _ => hsame b (hS b hb).2)) (fun b _ hb => (hS b hb).1), ((((((((hR.set2 (by omega)).set2 (by omega)).set2 (by omega)).set2 (by omega)).set2 (by omega)).set2 (by omega)).set2 (by omega)).set2 (by omega)), ((((((((k.set2 (by omega)).set2 (by omega)).set2 (by omega)).set2 (by omega)).set2 (by omega)).set2 (by omega)).set2 (by omega)).set2 (by omega))⟩
 refine ⟨_, ?_, ?_, ?_, hF⟩
 ·
  refine run_loadAt_mid w8 xb 0 70 [v0, v1, v2, v3, v4, v5, v6, v7] _ (fun q v hq => ?_) Tryz.underlying70 rfl size_co
  rw [Lib.cell_of_heap n8, Nat.zero_add, ← hq]
  simp
 ·
  refine run_storeAt_mid w8 w.heap.size 0 70 #[v0, v1, v2, v3, v4, v5, v6, v7] (fun j hj => ⟨?_, Lib.frozen_of_heap q8 _⟩) size_co (by have := pco_one hX; simpa using this)
  have hj : j < 8 := hj
  rw [Lib.cell_of_heap q8]
  rcases (by omega : j = 0 ∨ j = 1 ∨ j = 2 ∨ j = 3 ∨ j = 4 ∨ j = 5 ∨ j = 6 ∨ j = 7) with rfl | rfl | rfl | rfl | rfl | rfl | rfl | rfl <;> rfl
 ·
  have m0 : (w8.setCell ⟨w.heap.size, 0, none⟩ v0).heap[w.heap.size]? = some (.cells #[v0, .slice none 0 0, .slice none 0 0, .slice none 0 0, .slice none 0 0, .slice none 0 0, .slice none 0 0, .int .i64 0] 70 (0, 0)) := (set_hp q8 0 _).trans rfl
  have m1 : ((w8.setCell ⟨w.heap.size, 0, none⟩ v0).setCell ⟨w.heap.size, 1, none⟩ v1).heap[w.heap.size]? = some (.cells #[v0, v1, .slice none 0 0, .slice none 0 0, .slice none 0 0, .slice none 0 0, .slice none 0 0, .int .i64 0] 70 (0, 0)) := (set_hp m0 1 _).trans rfl
  have m2 : (((w8.setCell ⟨w.heap.size, 0, none⟩ v0).setCell ⟨w.heap.size, 1, none⟩ v1).setCell ⟨w.heap.size, 2, none⟩ v2).heap[w.heap.size]? = some (.cells #[v0, v1, v2, .slice none 0 0, .slice none 0 0, .slice none 0 0, .slice none 0 0, .int .i64 0] 70 (0, 0)) := (set_hp m1 2 _).trans rfl
  have m3 : ((((w8.setCell ⟨w.heap.size, 0, none⟩ v0).setCell ⟨w.heap.size, 1, none⟩ v1).setCell ⟨w.heap.size, 2, none⟩ v2).setCell ⟨w.heap.size, 3, none⟩ v3).heap[w.heap.size]? = some (.cells #[v0, v1, v2, v3, .slice none 0 0, .slice none 0 0, .slice none 0 0, .int .i64 0] 70 (0, 0)) := (set_hp m2 3 _).trans rfl
  have m4 : (((((w8.setCell ⟨w.heap.size, 0, none⟩ v0).setCell ⟨w.heap.size, 1, none⟩ v1).setCell ⟨w.heap.size, 2, none⟩ v2).setCell ⟨w.heap.size, 3, none⟩ v3).setCell ⟨w.heap.size, 4, none⟩ v4).heap[w.heap.size]? = some (.cells #[v0, v1, v2, v3, v4, .slice none 0 0, .slice none 0 0, .int .i64 0] 70 (0, 0)) := (set_hp m3 4 _).trans rfl
  have m5 : ((((((w8.setCell ⟨w.heap.size, 0, none⟩ v0).setCell ⟨w.heap.size, 1, none⟩ v1).setCell ⟨w.heap.size, 2, none⟩ v2).setCell ⟨w.heap.size, 3, none⟩ v3).setCell ⟨w.heap.size, 4, none⟩ v4).setCell ⟨w.heap.size, 5, none⟩ v5).heap[w.heap.size]? = some (.cells #[v0, v1, v2, v3, v4, v5, .slice none 0 0, .int .i64 0] 70 (0, 0)) := (set_hp m4 5 _).trans rfl
  have m6 : (((((((w8.setCell ⟨w.heap.size, 0, none⟩ v0).setCell ⟨w.heap.size, 1, none⟩ v1).setCell ⟨w.heap.size, 2, none⟩ v2).setCell ⟨w.heap.size, 3, none⟩ v3).setCell ⟨w.heap.size, 4, none⟩ v4).setCell ⟨w.heap.size, 5, none⟩ v5).setCell ⟨w.heap.size, 6, none⟩ v6).heap[w.heap.size]? = some (.cells #[v0, v1, v2, v3, v4, v5, v6, .int .i64 0] 70 (0, 0)) := (set_hp m5 6 _).trans rfl
  have m7 : ((((((((w8.setCell ⟨w.heap.size, 0, none⟩ v0).setCell ⟨w.heap.size, 1, none⟩ v1).setCell ⟨w.heap.size, 2, none⟩ v2).setCell ⟨w.heap.size, 3, none⟩ v3).setCell ⟨w.heap.size, 4, none⟩ v4).setCell ⟨w.heap.size, 5, none⟩ v5).setCell ⟨w.heap.size, 6, none⟩ v6).setCell ⟨w.heap.size, 7, none⟩ v7).heap[w.heap.size]? = some (.cells #[v0, v1, v2, v3, v4, v5, v6, v7] 70 (0, 0)) := (set_hp m6 7 _).trans rfl
  exact m7
/-- A program's value. -/
def VPg (S : Nat → Prop) (w : World) (v : Value) (x : Pg) : Prop := ∃ a0 n0 c0 a1 n1 c1 a2 n2 c2 a3 n3 c3 a4 n4 c4, v = .agg #[.slice a0 n0 c0, .slice a1 n1 c1, .slice a2 n2 c2, .slice a3 n3 c3, .slice a4 n4 c4] ∧ PgS S w [.slice a0 n0 c0, .slice a1 n1 c1, .slice a2 n2 c2, .slice a3 n3 c3, .slice a4 n4 c4] x
/-- A component's value. -/
def VCo (S : Nat → Prop) (w : World) (v : Value) (x : Cp) : Prop := ∃ ba bn bc a0 n0 c0 a1 n1 c1 a2 n2 c2 a3 n3 c3 a4 n4 c4, v = .agg #[str x.1, .slice ba bn bc, .slice a0 n0 c0, .slice a1 n1 c1, .slice a2 n2 c2, .slice a3 n3 c3, .slice a4 n4 c4, .int .i64 x.2.2.2] ∧ PCo S w [str x.1, .slice ba bn bc, .slice a0 n0 c0, .slice a1 n1 c1, .slice a2 n2 c2, .slice a3 n3 c3, .slice a4 n4 c4, .int .i64 x.2.2.2] x
end Go.Proofs.YtdjehbdpcdikkaaGreatDoor

namespace Go.Proofs.YtdjehbdpcdikkaaGreatDoor
open Go.RowKit Go.Maps

attribute [local go_sem ↓] storeAt_co loadAt_co

set_option maxRecDepth 100000 in
set_option maxHeartbeats 8000000 in
theorem comp_bs {rb e dp d : Nat} (hd : dp < 32) (hB : ∀ w l it, it ≤ 96 → Rd rb e w l it (dp + 1) → Calls Tryz.prog 75 #[.pointer (some ⟨rb, 0, none⟩), .int .i64 4, str [125]] w fun en w' => Ans rb e (dp + 1) w (fun w2 v x => VPg (fun b => w.heap.size ≤ b) w2 v x) (progD e d false l it) en w')
  {w : World} {t : Tok} {l : List Tok} {it : Nat} (hi : it ≤ 96) (h : Rd rb e w (t :: l) it dp) (hyp : ∀ s l2 i2, wordQ e l it = .ok s l2 i2 → sgn e l2 = [58]) :
  Calls Tryz.prog 136 #[.pointer (some ⟨rb, 0, none⟩)] w fun en w' => Ans rb e dp w (fun w2 v x => VCo (fun b => w.heap.size ≤ b) w2 v x) (compB e (progD e d false) (t :: l) it) en w' := by
 obtain ⟨w1, hw1⟩ : ∃ w1, w1 = w.alloc coZ := ⟨_, rfl⟩
 have b1 : Below w.heap.size w w1 := by rw [hw1]; exact (Below.refl _ w).alloc (Nat.le_refl _) _
 have q1 : w1.heap[w.heap.size]? = some coZ := by rw [hw1]; exact heap_alloc_new w _
 have s1 : w1.heap.size = w.heap.size + 1 := by rw [hw1]; simp
 have hen := enter_any (h.later b1) hd
 have hrb := h.lt
 obtain ⟨PO, hPO⟩ : ∃ PO : Ending → World → Prop, PO = fun en w' => Ans rb e dp w (fun w2 v x => VCo (fun b => w.heap.size ≤ b) w2 v x) (compB e (progD e d false) (t :: l) it) en w' := ⟨_, rfl⟩
 rw [← hPO]
 have HW1 : Hid (w1 = w.alloc (.cells #[.string ⟨#[]⟩, .slice none 0 0, .slice none 0 0, .slice none 0 0, .slice none 0 0, .slice none 0 0, .slice none 0 0, .int .i64 0] 70)) := hw1
 have HPO := hide hPO
 have HB := hide hB
 have HDP := hide hd
 have HI0 := hide hi
 have hsg : Hid (compB e (progD e d false) (t :: l) it = (wordQ e l it).bind fun n l2 i =>
  (if sgn e l2 = [58] then listP e [44] noMost (nmQ e) (l2.drop 1) i else .ok [] l2 i).bind fun bs l3 i =>
   (want e [123] l3 i).bind fun _ l4 i => (progD e d false l4 i).bind fun p l5 i => (want e [125] l5 i).map fun _ => (n, bs, p, (t.at_ : Int))) := rfl
 generalize compB e (progD e d false) (t :: l) it = sr at HPO hsg
 have K1 := hide (And.intro (Kp.of_below (rb := rb) b1) (And.intro q1 s1))
 clear h b1 q1 s1 hw1 hPO hB hd hi
 go_enter Tryz.func136, Tryz.ntmps136
 go_wp2_with fail
 rw [← unhide HW1]
 refine hen.mono ?_
 clear hen HW1
 rintro en w2 ⟨rfl, hR2, k2⟩
 have ha : Calls Tryz.prog 150 #[.pointer (some ⟨rb, 0, none⟩)] w2 fun en w' => en = .returned (.agg #[.int .i64 t.kind, str t.text, .int .i64 t.num, .int .i64 (t.at_ : Int)]) ∧ Rd rb e w' l it (dp + 1) ∧ Kp rb w2 w' := take_any hR2
 have K2 := hide k2
 clear hR2 k2
 go_wp2_with fail
 refine ha.mono ?_
 clear ha
 rintro en w2' ⟨rfl, hR2, k2'⟩
 obtain ⟨k1, q1, s1⟩ := unhide K1
 have k2 := (unhide K2).trans k2'
 have hs2 := k2.size
 obtain ⟨w3, hw3⟩ : ∃ w3, w3 = w2'.alloc (.cells #[.string ⟨#[]⟩, .slice none 0 0, .slice none 0 0, .slice none 0 0, .slice none 0 0, .slice none 0 0, .slice none 0 0, .int .i64 (t.at_ : Int)] 70) := ⟨_, rfl⟩
 have b3 : Below w2'.heap.size w2' w3 := by rw [hw3]; exact (Below.refl _ w2').alloc (Nat.le_refl _) _
 have n3 : w3.heap[w2'.heap.size]? = some (.cells #[.string ⟨#[]⟩, .slice none 0 0, .slice none 0 0, .slice none 0 0, .slice none 0 0, .slice none 0 0, .slice none 0 0, .int .i64 (t.at_ : Int)] 70 (0, 0)) := by rw [hw3]; exact heap_alloc_new w2' _
 have q3 : w3.heap[w.heap.size]? = some coZ := (b3.block _ (by omega)).trans (k2.keep q1 (by omega))
 have s3 : w3.heap.size = w2'.heap.size + 1 := by rw [hw3]; simp
 have hc := wordq_any (hR2.later b3)
 have HW3 := hide hw3
 have K3 := hide (And.intro ((k1.trans k2).trans (Kp.of_below b3)) (And.intro n3 (And.intro q3 (And.intro (by omega : w.heap.size + 1 ≤ w2'.heap.size) s3))))
 have hS3 := co_new w2' (t.at_ : Int)
 generalize hxb : w2'.heap.size = xb at K3 hS3
 clear k1 q1 s1 hs2 k2 k2' b3 n3 q3 s3 hw3 K1 K2 hR2
 go_wp2_with fail
 rename_i hK
 refine hK _ _ ?_
 clear hK
 go_wp2_with fail
 clear hS3
 cases hq : wordQ e l it with
 | bad why at1 l2 =>
  rw [hq] at hc hsg
  rw [unhide hsg] at HPO
  clear hq hsg
  go_wp2_with fail
  rw [← unhide HW3]
  refine hc.mono ?_
  clear hc
  rintro en w4 ⟨rfl, k4⟩
  have H4 := hide ((unhide K3).1.trans k4)
  clear k4
  go_wp2_with fail
  refine ⟨rfl, ?_⟩
  rw [unhide HPO]
  exact ⟨rfl, unhide H4⟩
 | ok s l2 i2 =>
  rw [hq] at hc hsg
  rw [unhide hsg, Rs.bind] at HPO
  have hb := hyp s l2 i2 hq
  have HI := hide (show i2 ≤ 96 by rw [ik_word _ _ _ _ _ hq]; exact unhide HI0)
  clear hsg hyp hq
  go_wp2_with fail
  rw [← unhide HW3]
  clear HW3 hxb
  refine hc.mono ?_
  clear hc
  rintro en w4 ⟨_, rfl, rfl, hR4, k4⟩
  obtain ⟨k3, n3, q3, g1, s3⟩ := unhide K3
  have hs4 := k4.size
  have n4 := k4.keep n3 (by omega)
  have q4 := k4.keep q3 (by omega)
  have hne : w.heap.size ≠ xb := by omega
  obtain ⟨c0, c1, c2, c3, c4, c5, c6, c7, cf⟩ := cl8 n4
  obtain ⟨w5, hw5⟩ : ∃ w5, w5 = w4.setCell ⟨xb, 0, none⟩ (str s) := ⟨_, rfl⟩
  have n5 : w5.heap[xb]? = some (.cells #[str s, .slice none 0 0, .slice none 0 0, .slice none 0 0, .slice none 0 0, .slice none 0 0, .slice none 0 0, .int .i64 (t.at_ : Int)] 70 (0, 0)) := by rw [hw5]; exact (set_hp n4 0 _).trans rfl
  have q5 : w5.heap[w.heap.size]? = some coZ := by rw [hw5, Below.heap_setCell _ _ _ _ hne]; exact q4
  have k5 : Kp rb w w5 := by rw [hw5]; exact (k3.trans k4).set2 (by omega)
  have hR5 : Rd rb e w5 l2 i2 (dp + 1) := by rw [hw5]; exact hR4.set2 (by omega)
  have hsk := skip_any hR5 [58] (by decide)
  have HW5 := hide hw5
  have K5 := hide (And.intro k5 (And.intro n5 (And.intro q5 (And.intro g1 (lt_hp n5)))))
  clear k3 n3 q3 g1 s3 hs4 n4 q4 c1 c2 c3 c4 c5 c6 c7 hw5 n5 q5 k5 hR5 K3 hR4 k4
  rw [if_pos hb, decide_eq_true hb] at hsk
  rw [if_pos hb] at HPO
  clear hb
  go_wp2_with fail
  rw [← unhide HW5]
  clear HW5 c0 cf
  refine hsk.mono ?_
  clear hsk
  rintro en w6 ⟨rfl, hR6, k6⟩
  have hli := listS_any PSt pst_ok partS_of shr_nm hR6 [44] (by decide) noMost
  have K6 := hide (And.intro ((unhide K5).1.trans k6) k6)
  clear hR6 k6
  cases hq : listP e [44] noMost (nmQ e) (l2.drop 1) i2 with
  | bad why at1 l4 =>
   rw [hq] at hli HPO
   clear hq
   go_wp2_with fail
   refine hli.mono ?_
   clear hli
   rintro en w7 ⟨rfl, k7⟩
   have HQ := hide ((unhide K6).1.trans k7)
   clear k7
   go_wp2_with fail
   refine ⟨rfl, ?_⟩
   rw [unhide HPO]
   exact ⟨rfl, unhide HQ⟩

  | ok ks lw iw =>
   have HIW := hide (show iw ≤ 96 by rw [ik_list ik_nm _ _ _ _ _ hq]; exact unhide HI)
   rw [hq] at hli
   rw [hq, Rs.bind] at HPO
   clear hq
   go_wp2_with fail
   refine hli.mono ?_
   clear hli
   rintro en w7 ⟨_, rfl, hL, hR7, k7'⟩
   obtain ⟨ka, kc, _, ev, _⟩ := id hL
   subst ev
   obtain ⟨k5, n5, q5, g1, g2⟩ := unhide K5
   have hs6 := (unhide K6).2.size
   have k7 := (unhide K6).2.trans k7'
   have n7 := k7.keep n5 (by omega)
   have q7 := k7.keep q5 (by omega)
   obtain ⟨x0, x1, x2, x3, x4, x5, x6, x7, xf⟩ := cl8 n7
   obtain ⟨w8, hw8⟩ : ∃ w8, w8 = w7.setCell ⟨xb, 1, none⟩ (.slice ka ks.length kc) := ⟨_, rfl⟩
   have nW : w8.heap[xb]? = some (.cells #[str s, .slice ka ks.length kc, .slice none 0 0, .slice none 0 0, .slice none 0 0, .slice none 0 0, .slice none 0 0, .int .i64 (t.at_ : Int)] 70 (0, 0)) := by rw [hw8]; exact (set_hp n7 1 _).trans rfl
   have hs8 : ∀ k, k ≠ xb → w8.heap[k]? = w7.heap[k]? := fun k hk => by rw [hw8, Below.heap_setCell _ _ _ _ hk]
   have s8 : w8.heap.size = w7.heap.size := by rw [hw8]; simp [World.setCell]
   have qW : w8.heap[w.heap.size]? = some coZ := (hs8 _ hne).trans q7
   have kW : Kp rb w w8 := by rw [hw8]; exact (k5.trans k7).set2 (by omega)
   have hRW : Rd rb e w8 lw iw (dp + 1) := by rw [hw8]; exact hR7.set2 (by omega)
   have LB : LsAt PSt 1 (fun b => w.heap.size < b ∧ b ≠ xb) w8 (.slice ka ks.length kc) ks := by
    refine (hL.same pst_ok (by omega) (fun b hb hl => hs8 b ?_)).mono pst_ok (fun b _ hb => ?_)
    · have hb' : w6.heap.size ≤ b := hb; omega
    · have hb' : w6.heap.size ≤ b := hb; exact ⟨by omega, by omega⟩
   have HW8 := hide hw8
   clear hL hR7 k7' k5 n5 q5 hs6 k7 n7 q7 hw8 hs8 s8 x0 x2 x3 x4 x5 x6 x7 K5 K6
   have hwt := want_any hRW [123] (by decide)
   have KW := hide (And.intro kW (And.intro nW (And.intro qW (And.intro LB (lt_hp nW)))))
   clear kW nW qW LB hRW
   cases hq : want e [123] lw iw with
   | bad why at1 l9 =>
    rw [hq] at hwt HPO
    clear hq
    go_wp2_with fail
    rw [← unhide HW8]; clear HW8 x1 xf
    refine hwt.mono ?_
    clear hwt
    rintro en w9 ⟨rfl, k9⟩
    have HQ := hide ((unhide KW).1.trans k9)
    clear k9
    go_wp2_with fail
    refine ⟨rfl, ?_⟩
    rw [unhide HPO]
    exact ⟨rfl, unhide HQ⟩
   | ok u l9 i9 =>
    have HI9 := hide (show i9 ≤ 96 by rw [ik_want _ _ _ _ _ _ hq]; exact unhide HIW)
    rw [hq] at hwt
    rw [hq, Rs.bind] at HPO
    clear hq
    go_wp2_with fail
    rw [← unhide HW8]; clear HW8 x1 xf
    refine hwt.mono ?_
    clear hwt
    rintro en w9 ⟨_, rfl, rfl, hR9, k9⟩
    obtain ⟨kW, nW, qW, LB, gW⟩ := unhide KW
    have hpr := unhide HB w9 l9 i9 (unhide HI9) hR9
    have K9 := hide (And.intro (kW.trans k9) (And.intro (k9.keep nW (by omega)) (And.intro (k9.keep qW (by omega)) (And.intro (LB.same pst_ok k9.size (fun b hb hl => k9.block b hl (by have hb' : w.heap.size < b ∧ b ≠ xb := hb; omega))) (by have := k9.size; omega : xb < w9.heap.size)))))
    clear hR9 k9 kW nW qW LB gW KW
    cases hq : progD e d false l9 i9 with
    | bad why at1 l10 =>
     rw [hq] at hpr HPO
     clear hq
     go_wp2_with fail
     refine hpr.mono ?_
     clear hpr
     rintro en w10 ⟨rfl, k10⟩
     have HQ := hide ((unhide K9).1.trans k10)
     clear k10
     go_wp2_with fail
     refine ⟨rfl, ?_⟩
     rw [unhide HPO]
     exact ⟨rfl, unhide HQ⟩
    | ok pg l10 i10 =>
     rw [hq] at hpr
     rw [hq, Rs.bind] at HPO
     clear hq
     go_wp2_with fail
     refine hpr.mono ?_
     clear hpr
     rintro en w10 ⟨_, rfl, ⟨a0, n0, c0, a1, n1, c1, a2, n2, c2, a3, n3, c3, a4, n4, c4, rfl, hP⟩, hR10, k10⟩
     obtain ⟨k9, n9, q9, LB, g9⟩ := unhide K9
     have n10 := k10.keep n9 (by omega)
     have q10 := k10.keep q9 (by omega)
     have LB10 := LB.same pst_ok k10.size (fun b hb hl => k10.block b hl (by have hb' : w.heap.size < b ∧ b ≠ xb := hb; omega))
     obtain ⟨x0, x1, x2, x3, x4, x5, x6, x7, xf⟩ := cl8 n10
     obtain ⟨w11, hw11⟩ : ∃ w11, w11 = (((((w10.setCell ⟨xb, 2, none⟩ (.slice a0 n0 c0)).setCell ⟨xb, 3, none⟩ (.slice a1 n1 c1)).setCell ⟨xb, 4, none⟩ (.slice a2 n2 c2)).setCell ⟨xb, 5, none⟩ (.slice a3 n3 c3)).setCell ⟨xb, 6, none⟩ (.slice a4 n4 c4)) := ⟨_, rfl⟩
     have n11 : w11.heap[xb]? = some (.cells #[str s, .slice ka ks.length kc, .slice a0 n0 c0, .slice a1 n1 c1, .slice a2 n2 c2, .slice a3 n3 c3, .slice a4 n4 c4, .int .i64 (t.at_ : Int)] 70 (0, 0)) := by rw [hw11]; exact (set_hp (set_hp (set_hp (set_hp (set_hp n10 2 _) 3 _) 4 _) 5 _) 6 _).trans rfl
     have hs11 : ∀ k, k ≠ xb → w11.heap[k]? = w10.heap[k]? := fun k hk => by rw [hw11, Below.heap_setCell _ _ _ _ hk, Below.heap_setCell _ _ _ _ hk, Below.heap_setCell _ _ _ _ hk, Below.heap_setCell _ _ _ _ hk, Below.heap_setCell _ _ _ _ hk]
     have s11 : w11.heap.size = w10.heap.size := by rw [hw11]; simp [World.setCell]
     have q11 : w11.heap[w.heap.size]? = some coZ := (hs11 _ hne).trans q10
     have k11 : Kp rb w w11 := by rw [hw11]; exact ((((((k9.trans k10).set2 (by omega)).set2 (by omega)).set2 (by omega)).set2 (by omega)).set2 (by omega))
     have hR11 : Rd rb e w11 l10 i10 (dp + 1) := by rw [hw11]; exact (((((hR10.set2 (by omega)).set2 (by omega)).set2 (by omega)).set2 (by omega)).set2 (by omega))
     have LB11 := LB10.same pst_ok (w' := w11) (by omega) (fun b hb _ => hs11 b (by have hb' : w.heap.size < b ∧ b ≠ xb := hb; exact hb'.2))
     have hP11 : PgS (fun b => w.heap.size < b ∧ b ≠ xb) w11 [.slice a0 n0 c0, .slice a1 n1 c1, .slice a2 n2 c2, .slice a3 n3 c3, .slice a4 n4 c4] pg := pgS_ok.mono _ _ _ _ _ (pgS_ok.same _ _ w11 _ _ hP (by omega) (fun b hb _ => hs11 b (by have hb' : w9.heap.size ≤ b := hb; omega))) (fun b _ hb => by have hb' : w9.heap.size ≤ b := hb; exact ⟨by omega, by omega⟩)
     have hw2 := want_any hR11 [125] (by decide)
     have HW11 := hide hw11
     have K11 := hide (And.intro k11 (And.intro n11 (And.intro q11 (And.intro LB11 (And.intro hP11 (lt_hp n11))))))
     clear hP hR10 k10 k9 n9 q9 LB g9 n10 q10 LB10 hw11 n11 hs11 s11 q11 k11 hR11 LB11 hP11 x0 x1 x7 K9
     cases hq : want e [125] l10 i10 with
     | bad why at1 l12 =>
      rw [hq] at hw2 HPO
      clear hq
      go_wp2_with fail
      rw [← unhide HW11]
      refine hw2.mono ?_
      clear hw2
      rintro en w12 ⟨rfl, k12⟩
      have HQ := hide ((unhide K11).1.trans k12)
      clear k12
      go_wp2_with fail
      refine ⟨rfl, ?_⟩
      rw [unhide HPO]
      exact ⟨rfl, unhide HQ⟩
     | ok u2 l12 i12 =>
      rw [hq] at hw2 HPO
      clear hq
      go_wp2_with fail
      rw [← unhide HW11]
      clear HW11 x2 x3 x4 x5 x6 xf
      refine hw2.mono ?_
      clear hw2
      rintro en w12 ⟨_, rfl, rfl, hR12, k12⟩
      have hlv := leave_any hR12 (unhide HDP)
      have K12 := hide k12
      clear hR12 k12
      go_wp2_with fail
      refine hlv.mono ?_
      clear hlv
      rintro en w13 ⟨rfl, hR13, k13'⟩
      obtain ⟨k11, n11, q11, LB11, hP11, g11⟩ := unhide K11
      have k13 := (unhide K12).trans k13'
      have hX : PCo (fun b => w.heap.size < b ∧ b ≠ xb) w13 [str s, .slice ka ks.length kc, .slice a0 n0 c0, .slice a1 n1 c1, .slice a2 n2 c2, .slice a3 n3 c3, .slice a4 n4 c4, .int .i64 (t.at_ : Int)] (s, ks, pg, (t.at_ : Int)) := ⟨.slice ka ks.length kc, [.slice a0 n0 c0, .slice a1 n1 c1, .slice a2 n2 c2, .slice a3 n3 c3, .slice a4 n4 c4], rfl, rfl, LB11.same pst_ok k13.size (fun b hb hl => k13.block b hl (by have hb' : w.heap.size < b ∧ b ≠ xb := hb; omega)), pgS_ok.same _ _ w13 _ _ hP11 k13.size (fun b hb hl => k13.block b hl (by have hb' : w.heap.size < b ∧ b ≠ xb := hb; omega))⟩
      obtain ⟨w14, hL8, hS8, n14, HF'⟩ := co_end (k13.keep n11 (by omega)) (k13.keep q11 (by omega)) hX (fun b hb => by have hb' : w.heap.size < b ∧ b ≠ xb := hb; exact ⟨by omega, by omega⟩) hR13 (k11.trans k13) hrb
      obtain ⟨y0, y1, y2, y3, y4, y5, y6, y7, yf⟩ := cl8 n14
      have HF := hide HF'
      clear HF' n14 hX hR13 k13' k11 n11 q11 LB11 hP11 g11 k13 K11 K12
      go_wp2_with fail
      refine bodyPost_ret (v := .agg #[str s, .slice ka ks.length kc, .slice a0 n0 c0, .slice a1 n1 c1, .slice a2 n2 c2, .slice a3 n3 c3, .slice a4 n4 c4, .int .i64 (t.at_ : Int)]) (by simp [results, Tryz.results136, go_sem, y0, y1, y2, y3, y4, y5, y6, y7]) rfl ?_
      rw [unhide HPO]
      exact ⟨_, rfl, ⟨_, _, _, _, _, _, _, _, _, _, _, _, _, _, _, _, _, _, rfl, (unhide HF).1⟩, (unhide HF).2⟩
end Go.Proofs.YtdjehbdpcdikkaaGreatDoor

namespace Go.Proofs.YtdjehbdpcdikkaaGreatDoor
open Go.RowKit Go.Maps

attribute [local go_sem ↓] storeAt_co loadAt_co

set_option maxRecDepth 100000 in
set_option maxHeartbeats 8000000 in
theorem comp_no {rb e dp d : Nat} (hd : dp < 32) (hB : ∀ w l it, it ≤ 96 → Rd rb e w l it (dp + 1) → Calls Tryz.prog 75 #[.pointer (some ⟨rb, 0, none⟩), .int .i64 4, str [125]] w fun en w' => Ans rb e (dp + 1) w (fun w2 v x => VPg (fun b => w.heap.size ≤ b) w2 v x) (progD e d false l it) en w')
  {w : World} {t : Tok} {l : List Tok} {it : Nat} (hi : it ≤ 96) (h : Rd rb e w (t :: l) it dp) (hyp : ∀ s l2 i2, wordQ e l it = .ok s l2 i2 → ¬ sgn e l2 = [58]) :
  Calls Tryz.prog 136 #[.pointer (some ⟨rb, 0, none⟩)] w fun en w' => Ans rb e dp w (fun w2 v x => VCo (fun b => w.heap.size ≤ b) w2 v x) (compB e (progD e d false) (t :: l) it) en w' := by
 obtain ⟨w1, hw1⟩ : ∃ w1, w1 = w.alloc coZ := ⟨_, rfl⟩
 have b1 : Below w.heap.size w w1 := by rw [hw1]; exact (Below.refl _ w).alloc (Nat.le_refl _) _
 have q1 : w1.heap[w.heap.size]? = some coZ := by rw [hw1]; exact heap_alloc_new w _
 have s1 : w1.heap.size = w.heap.size + 1 := by rw [hw1]; simp
 have hen := enter_any (h.later b1) hd
 have hrb := h.lt
 obtain ⟨PO, hPO⟩ : ∃ PO : Ending → World → Prop, PO = fun en w' => Ans rb e dp w (fun w2 v x => VCo (fun b => w.heap.size ≤ b) w2 v x) (compB e (progD e d false) (t :: l) it) en w' := ⟨_, rfl⟩
 rw [← hPO]
 have HW1 : Hid (w1 = w.alloc (.cells #[.string ⟨#[]⟩, .slice none 0 0, .slice none 0 0, .slice none 0 0, .slice none 0 0, .slice none 0 0, .slice none 0 0, .int .i64 0] 70)) := hw1
 have HPO := hide hPO
 have HB := hide hB
 have HDP := hide hd
 have HI0 := hide hi
 have hsg : Hid (compB e (progD e d false) (t :: l) it = (wordQ e l it).bind fun n l2 i =>
  (if sgn e l2 = [58] then listP e [44] noMost (nmQ e) (l2.drop 1) i else .ok [] l2 i).bind fun bs l3 i =>
   (want e [123] l3 i).bind fun _ l4 i => (progD e d false l4 i).bind fun p l5 i => (want e [125] l5 i).map fun _ => (n, bs, p, (t.at_ : Int))) := rfl
 generalize compB e (progD e d false) (t :: l) it = sr at HPO hsg
 have K1 := hide (And.intro (Kp.of_below (rb := rb) b1) (And.intro q1 s1))
 clear h b1 q1 s1 hw1 hPO hB hd hi
 go_enter Tryz.func136, Tryz.ntmps136
 go_wp2_with fail
 rw [← unhide HW1]
 refine hen.mono ?_
 clear hen HW1
 rintro en w2 ⟨rfl, hR2, k2⟩
 have ha : Calls Tryz.prog 150 #[.pointer (some ⟨rb, 0, none⟩)] w2 fun en w' => en = .returned (.agg #[.int .i64 t.kind, str t.text, .int .i64 t.num, .int .i64 (t.at_ : Int)]) ∧ Rd rb e w' l it (dp + 1) ∧ Kp rb w2 w' := take_any hR2
 have K2 := hide k2
 clear hR2 k2
 go_wp2_with fail
 refine ha.mono ?_
 clear ha
 rintro en w2' ⟨rfl, hR2, k2'⟩
 obtain ⟨k1, q1, s1⟩ := unhide K1
 have k2 := (unhide K2).trans k2'
 have hs2 := k2.size
 obtain ⟨w3, hw3⟩ : ∃ w3, w3 = w2'.alloc (.cells #[.string ⟨#[]⟩, .slice none 0 0, .slice none 0 0, .slice none 0 0, .slice none 0 0, .slice none 0 0, .slice none 0 0, .int .i64 (t.at_ : Int)] 70) := ⟨_, rfl⟩
 have b3 : Below w2'.heap.size w2' w3 := by rw [hw3]; exact (Below.refl _ w2').alloc (Nat.le_refl _) _
 have n3 : w3.heap[w2'.heap.size]? = some (.cells #[.string ⟨#[]⟩, .slice none 0 0, .slice none 0 0, .slice none 0 0, .slice none 0 0, .slice none 0 0, .slice none 0 0, .int .i64 (t.at_ : Int)] 70 (0, 0)) := by rw [hw3]; exact heap_alloc_new w2' _
 have q3 : w3.heap[w.heap.size]? = some coZ := (b3.block _ (by omega)).trans (k2.keep q1 (by omega))
 have s3 : w3.heap.size = w2'.heap.size + 1 := by rw [hw3]; simp
 have hc := wordq_any (hR2.later b3)
 have HW3 := hide hw3
 have K3 := hide (And.intro ((k1.trans k2).trans (Kp.of_below b3)) (And.intro n3 (And.intro q3 (And.intro (by omega : w.heap.size + 1 ≤ w2'.heap.size) s3))))
 have hS3 := co_new w2' (t.at_ : Int)
 generalize hxb : w2'.heap.size = xb at K3 hS3
 clear k1 q1 s1 hs2 k2 k2' b3 n3 q3 s3 hw3 K1 K2 hR2
 go_wp2_with fail
 rename_i hK
 refine hK _ _ ?_
 clear hK
 go_wp2_with fail
 clear hS3
 cases hq : wordQ e l it with
 | bad why at1 l2 =>
  rw [hq] at hc hsg
  rw [unhide hsg] at HPO
  clear hq hsg
  go_wp2_with fail
  rw [← unhide HW3]
  refine hc.mono ?_
  clear hc
  rintro en w4 ⟨rfl, k4⟩
  have H4 := hide ((unhide K3).1.trans k4)
  clear k4
  go_wp2_with fail
  refine ⟨rfl, ?_⟩
  rw [unhide HPO]
  exact ⟨rfl, unhide H4⟩
 | ok s l2 i2 =>
  rw [hq] at hc hsg
  rw [unhide hsg, Rs.bind] at HPO
  have hb := hyp s l2 i2 hq
  have HI := hide (show i2 ≤ 96 by rw [ik_word _ _ _ _ _ hq]; exact unhide HI0)
  clear hsg hyp hq
  go_wp2_with fail
  rw [← unhide HW3]
  clear HW3 hxb
  refine hc.mono ?_
  clear hc
  rintro en w4 ⟨_, rfl, rfl, hR4, k4⟩
  obtain ⟨k3, n3, q3, g1, s3⟩ := unhide K3
  have hs4 := k4.size
  have n4 := k4.keep n3 (by omega)
  have q4 := k4.keep q3 (by omega)
  have hne : w.heap.size ≠ xb := by omega
  obtain ⟨c0, c1, c2, c3, c4, c5, c6, c7, cf⟩ := cl8 n4
  obtain ⟨w5, hw5⟩ : ∃ w5, w5 = w4.setCell ⟨xb, 0, none⟩ (str s) := ⟨_, rfl⟩
  have n5 : w5.heap[xb]? = some (.cells #[str s, .slice none 0 0, .slice none 0 0, .slice none 0 0, .slice none 0 0, .slice none 0 0, .slice none 0 0, .int .i64 (t.at_ : Int)] 70 (0, 0)) := by rw [hw5]; exact (set_hp n4 0 _).trans rfl
  have q5 : w5.heap[w.heap.size]? = some coZ := by rw [hw5, Below.heap_setCell _ _ _ _ hne]; exact q4
  have k5 : Kp rb w w5 := by rw [hw5]; exact (k3.trans k4).set2 (by omega)
  have hR5 : Rd rb e w5 l2 i2 (dp + 1) := by rw [hw5]; exact hR4.set2 (by omega)
  have hsk := skip_any hR5 [58] (by decide)
  have HW5 := hide hw5
  have K5 := hide (And.intro k5 (And.intro n5 (And.intro q5 (And.intro g1 (lt_hp n5)))))
  clear k3 n3 q3 g1 s3 hs4 n4 q4 c1 c2 c3 c4 c5 c6 c7 hw5 n5 q5 k5 hR5 K3 hR4 k4
  rw [if_neg hb, decide_eq_false hb] at hsk
  rw [if_neg hb, Rs.bind] at HPO
  clear hb
  go_wp2_with fail
  rw [← unhide HW5]
  clear HW5 c0 cf
  refine hsk.mono ?_
  clear hsk
  rintro en w6 ⟨rfl, hRW, k6⟩
  obtain ⟨k5, n5, q5, g1, g2⟩ := unhide K5
  have nW := k6.keep n5 (by omega)
  have qW := k6.keep q5 (by omega)
  have kW := k5.trans k6
  have LB : LsAt PSt 1 (fun b => w.heap.size < b ∧ b ≠ xb) w6 (.slice none 0 0) [] := LsAt.nil _ _
  generalize hlw : l2 = lw at hRW HPO
  have HIW := HI
  generalize hiw : i2 = iw at hRW HPO HIW
  clear hlw hiw k6 k5 n5 q5 K5
  have hwt := want_any hRW [123] (by decide)
  have KW := hide (And.intro kW (And.intro nW (And.intro qW (And.intro LB (lt_hp nW)))))
  clear kW nW qW LB hRW
  cases hq : want e [123] lw iw with
  | bad why at1 l9 =>
   rw [hq] at hwt HPO
   clear hq
   go_wp2_with fail
   refine hwt.mono ?_
   clear hwt
   rintro en w9 ⟨rfl, k9⟩
   have HQ := hide ((unhide KW).1.trans k9)
   clear k9
   go_wp2_with fail
   refine ⟨rfl, ?_⟩
   rw [unhide HPO]
   exact ⟨rfl, unhide HQ⟩
  | ok u l9 i9 =>
   have HI9 := hide (show i9 ≤ 96 by rw [ik_want _ _ _ _ _ _ hq]; exact unhide HIW)
   rw [hq] at hwt
   rw [hq, Rs.bind] at HPO
   clear hq
   go_wp2_with fail
   refine hwt.mono ?_
   clear hwt
   rintro en w9 ⟨_, rfl, rfl, hR9, k9⟩
   obtain ⟨kW, nW, qW, LB, gW⟩ := unhide KW
   have hpr := unhide HB w9 l9 i9 (unhide HI9) hR9
   have K9 := hide (And.intro (kW.trans k9) (And.intro (k9.keep nW (by omega)) (And.intro (k9.keep qW (by omega)) (And.intro (LB.same pst_ok k9.size (fun b hb hl => k9.block b hl (by have hb' : w.heap.size < b ∧ b ≠ xb := hb; omega))) (by have := k9.size; omega : xb < w9.heap.size)))))
   clear hR9 k9 kW nW qW LB gW KW
   cases hq : progD e d false l9 i9 with
   | bad why at1 l10 =>
    rw [hq] at hpr HPO
    clear hq
    go_wp2_with fail
    refine hpr.mono ?_
    clear hpr
    rintro en w10 ⟨rfl, k10⟩
    have HQ := hide ((unhide K9).1.trans k10)
    clear k10
    go_wp2_with fail
    refine ⟨rfl, ?_⟩
    rw [unhide HPO]
    exact ⟨rfl, unhide HQ⟩
   | ok pg l10 i10 =>
    rw [hq] at hpr
    rw [hq, Rs.bind] at HPO
    clear hq
    go_wp2_with fail
    refine hpr.mono ?_
    clear hpr
    rintro en w10 ⟨_, rfl, ⟨a0, n0, c0, a1, n1, c1, a2, n2, c2, a3, n3, c3, a4, n4, c4, rfl, hP⟩, hR10, k10⟩
    obtain ⟨k9, n9, q9, LB, g9⟩ := unhide K9
    have n10 := k10.keep n9 (by omega)
    have q10 := k10.keep q9 (by omega)
    have LB10 := LB.same pst_ok k10.size (fun b hb hl => k10.block b hl (by have hb' : w.heap.size < b ∧ b ≠ xb := hb; omega))
    obtain ⟨x0, x1, x2, x3, x4, x5, x6, x7, xf⟩ := cl8 n10
    obtain ⟨w11, hw11⟩ : ∃ w11, w11 = (((((w10.setCell ⟨xb, 2, none⟩ (.slice a0 n0 c0)).setCell ⟨xb, 3, none⟩ (.slice a1 n1 c1)).setCell ⟨xb, 4, none⟩ (.slice a2 n2 c2)).setCell ⟨xb, 5, none⟩ (.slice a3 n3 c3)).setCell ⟨xb, 6, none⟩ (.slice a4 n4 c4)) := ⟨_, rfl⟩
    have n11 : w11.heap[xb]? = some (.cells #[str s, .slice none 0 0, .slice a0 n0 c0, .slice a1 n1 c1, .slice a2 n2 c2, .slice a3 n3 c3, .slice a4 n4 c4, .int .i64 (t.at_ : Int)] 70 (0, 0)) := by rw [hw11]; exact (set_hp (set_hp (set_hp (set_hp (set_hp n10 2 _) 3 _) 4 _) 5 _) 6 _).trans rfl
    have hs11 : ∀ k, k ≠ xb → w11.heap[k]? = w10.heap[k]? := fun k hk => by rw [hw11, Below.heap_setCell _ _ _ _ hk, Below.heap_setCell _ _ _ _ hk, Below.heap_setCell _ _ _ _ hk, Below.heap_setCell _ _ _ _ hk, Below.heap_setCell _ _ _ _ hk]
    have s11 : w11.heap.size = w10.heap.size := by rw [hw11]; simp [World.setCell]
    have q11 : w11.heap[w.heap.size]? = some coZ := (hs11 _ hne).trans q10
    have k11 : Kp rb w w11 := by rw [hw11]; exact ((((((k9.trans k10).set2 (by omega)).set2 (by omega)).set2 (by omega)).set2 (by omega)).set2 (by omega))
    have hR11 : Rd rb e w11 l10 i10 (dp + 1) := by rw [hw11]; exact (((((hR10.set2 (by omega)).set2 (by omega)).set2 (by omega)).set2 (by omega)).set2 (by omega))
    have LB11 := LB10.same pst_ok (w' := w11) (by omega) (fun b hb _ => hs11 b (by have hb' : w.heap.size < b ∧ b ≠ xb := hb; exact hb'.2))
    have hP11 : PgS (fun b => w.heap.size < b ∧ b ≠ xb) w11 [.slice a0 n0 c0, .slice a1 n1 c1, .slice a2 n2 c2, .slice a3 n3 c3, .slice a4 n4 c4] pg := pgS_ok.mono _ _ _ _ _ (pgS_ok.same _ _ w11 _ _ hP (by omega) (fun b hb _ => hs11 b (by have hb' : w9.heap.size ≤ b := hb; omega))) (fun b _ hb => by have hb' : w9.heap.size ≤ b := hb; exact ⟨by omega, by omega⟩)
    have hw2 := want_any hR11 [125] (by decide)
    have HW11 := hide hw11
    have K11 := hide (And.intro k11 (And.intro n11 (And.intro q11 (And.intro LB11 (And.intro hP11 (lt_hp n11))))))
    clear hP hR10 k10 k9 n9 q9 LB g9 n10 q10 LB10 hw11 n11 hs11 s11 q11 k11 hR11 LB11 hP11 x0 x1 x7 K9
    cases hq : want e [125] l10 i10 with
    | bad why at1 l12 =>
     rw [hq] at hw2 HPO
     clear hq
     go_wp2_with fail
     rw [← unhide HW11]
     refine hw2.mono ?_
     clear hw2
     rintro en w12 ⟨rfl, k12⟩
     have HQ := hide ((unhide K11).1.trans k12)
     clear k12
     go_wp2_with fail
     refine ⟨rfl, ?_⟩
     rw [unhide HPO]
     exact ⟨rfl, unhide HQ⟩
    | ok u2 l12 i12 =>
     rw [hq] at hw2 HPO
     clear hq
     go_wp2_with fail
     rw [← unhide HW11]
     clear HW11 x2 x3 x4 x5 x6 xf
     refine hw2.mono ?_
     clear hw2
     rintro en w12 ⟨_, rfl, rfl, hR12, k12⟩
     have hlv := leave_any hR12 (unhide HDP)
     have K12 := hide k12
     clear hR12 k12
     go_wp2_with fail
     refine hlv.mono ?_
     clear hlv
     rintro en w13 ⟨rfl, hR13, k13'⟩
     obtain ⟨k11, n11, q11, LB11, hP11, g11⟩ := unhide K11
     have k13 := (unhide K12).trans k13'
     have hX : PCo (fun b => w.heap.size < b ∧ b ≠ xb) w13 [str s, .slice none 0 0, .slice a0 n0 c0, .slice a1 n1 c1, .slice a2 n2 c2, .slice a3 n3 c3, .slice a4 n4 c4, .int .i64 (t.at_ : Int)] (s, [], pg, (t.at_ : Int)) := ⟨.slice none 0 0, [.slice a0 n0 c0, .slice a1 n1 c1, .slice a2 n2 c2, .slice a3 n3 c3, .slice a4 n4 c4], rfl, rfl, LB11.same pst_ok k13.size (fun b hb hl => k13.block b hl (by have hb' : w.heap.size < b ∧ b ≠ xb := hb; omega)), pgS_ok.same _ _ w13 _ _ hP11 k13.size (fun b hb hl => k13.block b hl (by have hb' : w.heap.size < b ∧ b ≠ xb := hb; omega))⟩
     obtain ⟨w14, hL8, hS8, n14, HF'⟩ := co_end (k13.keep n11 (by omega)) (k13.keep q11 (by omega)) hX (fun b hb => by have hb' : w.heap.size < b ∧ b ≠ xb := hb; exact ⟨by omega, by omega⟩) hR13 (k11.trans k13) hrb
     obtain ⟨y0, y1, y2, y3, y4, y5, y6, y7, yf⟩ := cl8 n14
     have HF := hide HF'
     clear HF' n14 hX hR13 k13' k11 n11 q11 LB11 hP11 g11 k13 K11 K12
     go_wp2_with fail
     refine bodyPost_ret (v := .agg #[str s, .slice none 0 0, .slice a0 n0 c0, .slice a1 n1 c1, .slice a2 n2 c2, .slice a3 n3 c3, .slice a4 n4 c4, .int .i64 (t.at_ : Int)]) (by simp [results, Tryz.results136, go_sem, y0, y1, y2, y3, y4, y5, y6, y7]) rfl ?_
     rw [unhide HPO]
     exact ⟨_, rfl, ⟨_, _, _, _, _, _, _, _, _, _, _, _, _, _, _, _, _, _, rfl, (unhide HF).1⟩, (unhide HF).2⟩
end Go.Proofs.YtdjehbdpcdikkaaGreatDoor
