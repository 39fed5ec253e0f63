/- syn: lit, what it stores. syn: the generic list, at Txt. -/
import Derived.Test.YtccehgfecaamoaaGreatDoorQb12
import Derived.Deep.WholeRow
import Derived.Test.YtccehgfecaamoaaGreatDoorQb07
set_option maxRecDepth 100000
set_option maxHeartbeats 32000000
namespace Go.Proofs.YtccehgfecaamoaaGreatDoor
section
open Go.RowKit Go.Maps
abbrev ltZ : Obj := .cells #[.int .i64 0, .string ⟨#[]⟩, .slice none 0 0, .int .i64 0, .string ⟨#[]⟩, .int .i64 0, .int .i64 0, .string ⟨#[]⟩, .slice none 0 0, .int .i64 0, .int .i64 0, .int .i64 0, .string ⟨#[]⟩, .slice none 0 0, .int .i64 0, .int .i64 0] 69
theorem cl16 {w : World} {b : Nat} {T : TypeId} {v0 v1 v2 v3 v4 v5 v6 v7 v8 v9 v10 v11 v12 v13 v14 v15 : Value} (h : w.heap[b]? = some (.cells #[v0, v1, v2, v3, v4, v5, v6, v7, v8, v9, v10, v11, v12, v13, v14, v15] T (0, 0))) :
  w.cell? ⟨b, 0, none⟩ = some v0 ∧ w.cell? ⟨b, 1, none⟩ = some v1 ∧ w.cell? ⟨b, 2, none⟩ = some v2 ∧ w.cell? ⟨b, 3, none⟩ = some v3 ∧ w.cell? ⟨b, 4, none⟩ = some v4 ∧ w.cell? ⟨b, 5, none⟩ = some v5 ∧ w.cell? ⟨b, 6, none⟩ = some v6 ∧ w.cell? ⟨b, 7, none⟩ = some v7 ∧ w.cell? ⟨b, 8, none⟩ = some v8 ∧ w.cell? ⟨b, 9, none⟩ = some v9 ∧ w.cell? ⟨b, 10, none⟩ = some v10 ∧ w.cell? ⟨b, 11, none⟩ = some v11 ∧ w.cell? ⟨b, 12, none⟩ = some v12 ∧ w.cell? ⟨b, 13, none⟩ = some v13 ∧ w.cell? ⟨b, 14, none⟩ = some v14 ∧ w.cell? ⟨b, 15, none⟩ = some v15 ∧ ∀ o, w.frozen? ⟨b, o, none⟩ = false :=
 ⟨(Qab h 0).trans rfl, (Qab h 1).trans rfl, (Qab h 2).trans rfl, (Qab h 3).trans rfl, (Qab h 4).trans rfl, (Qab h 5).trans rfl, (Qab h 6).trans rfl, (Qab h 7).trans rfl, (Qab h 8).trans rfl, (Qab h 9).trans rfl, (Qab h 10).trans rfl, (Qab h 11).trans rfl, (Qab h 12).trans rfl, (Qab h 13).trans rfl, (Qab h 14).trans rfl, (Qab h 15).trans rfl, fun o => by simp [World.frozen?, h]⟩
def PLt : PS Lt := fun S w cs x => ∃ aa an ac xa xn xc ya yn yc, cs = [.int .i64 x.kind, str x.atom.rel, .slice aa an ac, .int .i64 x.atom.at_, str x.op, .int .i64 x.l.kind, .int .i64 x.l.num, str x.l.txt, .slice xa xn xc, .int .i64 x.l.at_, .int .i64 x.r.kind, .int .i64 x.r.num, str x.r.txt, .slice ya yn yc, .int .i64 x.r.at_, .int .i64 x.at_] ∧ LsAt PE 5 S w (.slice aa an ac) x.atom.args ∧ ExS S w [.int .i64 x.l.kind, .int .i64 x.l.num, str x.l.txt, .slice xa xn xc, .int .i64 x.l.at_] x.l ∧ ExS S w [.int .i64 x.r.kind, .int .i64 x.r.num, str x.r.txt, .slice ya yn yc, .int .i64 x.r.at_] x.r
theorem Qbt : PSok PLt where
 mono := fun _ _ _ _ _ ⟨aa, an, ac, xa, xn, xc, ya, yn, yc, h1, h2, h3, h4⟩ hS => ⟨aa, an, ac, xa, xn, xc, ya, yn, yc, h1, h2.mono Qae hS, Qae.mono _ _ _ _ _ h3 hS, Qae.mono _ _ _ _ _ h4 hS⟩
 same := fun _ _ _ _ _ ⟨aa, an, ac, xa, xn, xc, ya, yn, yc, h1, h2, h3, h4⟩ hs hb => ⟨aa, an, ac, xa, xn, xc, ya, yn, yc, h1, h2.same Qae hs hb, Qae.same _ _ _ _ _ h3 hs hb, Qae.same _ _ _ _ _ h4 hs hb⟩
theorem Qhl (S : Nat → Prop) (w : World) : ExS S w [.int .i64 0, .int .i64 0, .string ⟨#[]⟩, .slice none 0 0, .int .i64 0] .none := Qep S w 0 0 0 []
theorem lt_fin {rb e dp : Nat} {w w9 : World} {l : List Tok} {it : Nat} {x : Lt} {S : Nat → Prop} {v0 v1 v2 v3 v4 v5 v6 v7 v8 v9 v10 v11 v12 v13 v14 v15 : Value} (hX : PLt S w9 [v0, v1, v2, v3, v4, v5, v6, v7, v8, v9, v10, v11, v12, v13, v14, v15] x) (hS : ∀ b, S b → w.heap.size ≤ b ∧ b ≠ w.heap.size) (hR : Rd rb e w9 l it dp) (k : Kp rb w w9) (hrb : rb < w.heap.size) (q0 q1 q2 q3 q4 q5 q6 q7 q8 q9 q10 q11 q12 q13 q14 q15 : Value) :
  PLt (fun b => w.heap.size ≤ b) ((((((((((((((((w9.setCell ⟨w.heap.size, 0, none⟩ (q0)).setCell ⟨w.heap.size, 1, none⟩ (q1)).setCell ⟨w.heap.size, 2, none⟩ (q2)).setCell ⟨w.heap.size, 3, none⟩ (q3)).setCell ⟨w.heap.size, 4, none⟩ (q4)).setCell ⟨w.heap.size, 5, none⟩ (q5)).setCell ⟨w.heap.size, 6, none⟩ (q6)).setCell ⟨w.heap.size, 7, none⟩ (q7)).setCell ⟨w.heap.size, 8, none⟩ (q8)).setCell ⟨w.heap.size, 9, none⟩ (q9)).setCell ⟨w.heap.size, 10, none⟩ (q10)).setCell ⟨w.heap.size, 11, none⟩ (q11)).setCell ⟨w.heap.size, 12, none⟩ (q12)).setCell ⟨w.heap.size, 13, none⟩ (q13)).setCell ⟨w.heap.size, 14, none⟩ (q14)).setCell ⟨w.heap.size, 15, none⟩ (q15)) [v0, v1, v2, v3, v4, v5, v6, v7, v8, v9, v10, v11, v12, v13, v14, v15] x ∧ Rd rb e ((((((((((((((((w9.setCell ⟨w.heap.size, 0, none⟩ (q0)).setCell ⟨w.heap.size, 1, none⟩ (q1)).setCell ⟨w.heap.size, 2, none⟩ (q2)).setCell ⟨w.heap.size, 3, none⟩ (q3)).setCell ⟨w.heap.size, 4, none⟩ (q4)).setCell ⟨w.heap.size, 5, none⟩ (q5)).setCell ⟨w.heap.size, 6, none⟩ (q6)).setCell ⟨w.heap.size, 7, none⟩ (q7)).setCell ⟨w.heap.size, 8, none⟩ (q8)).setCell ⟨w.heap.size, 9, none⟩ (q9)).setCell ⟨w.heap.size, 10, none⟩ (q10)).setCell ⟨w.heap.size, 11, none⟩ (q11)).setCell ⟨w.heap.size, 12, none⟩ (q12)).setCell ⟨w.heap.size, 13, none⟩ (q13)).setCell ⟨w.heap.size, 14, none⟩ (q14)).setCell ⟨w.heap.size, 15, none⟩ (q15)) l it dp ∧ Kp rb w ((((((((((((((((w9.setCell ⟨w.heap.size, 0, none⟩ (q0)).setCell ⟨w.heap.size, 1, none⟩ (q1)).setCell ⟨w.heap.size, 2, none⟩ (q2)).setCell ⟨w.heap.size, 3, none⟩ (q3)).setCell ⟨w.heap.size, 4, none⟩ (q4)).setCell ⟨w.heap.size, 5, none⟩ (q5)).setCell ⟨w.heap.size, 6, none⟩ (q6)).setCell ⟨w.heap.size, 7, none⟩ (q7)).setCell ⟨w.heap.size, 8, none⟩ (q8)).setCell ⟨w.heap.size, 9, none⟩ (q9)).setCell ⟨w.heap.size, 10, none⟩ (q10)).setCell ⟨w.heap.size, 11, none⟩ (q11)).setCell ⟨w.heap.size, 12, none⟩ (q12)).setCell ⟨w.heap.size, 13, none⟩ (q13)).setCell ⟨w.heap.size, 14, none⟩ (q14)).setCell ⟨w.heap.size, 15, none⟩ (q15)) := by
 have hsame : ∀ b, b ≠ w.heap.size → ((((((((((((((((w9.setCell ⟨w.heap.size, 0, none⟩ (q0)).setCell ⟨w.heap.size, 1, none⟩ (q1)).setCell ⟨w.heap.size, 2, none⟩ (q2)).setCell ⟨w.heap.size, 3, none⟩ (q3)).setCell ⟨w.heap.size, 4, none⟩ (q4)).setCell ⟨w.heap.size, 5, none⟩ (q5)).setCell ⟨w.heap.size, 6, none⟩ (q6)).setCell ⟨w.heap.size, 7, none⟩ (q7)).setCell ⟨w.heap.size, 8, none⟩ (q8)).setCell ⟨w.heap.size, 9, none⟩ (q9)).setCell ⟨w.heap.size, 10, none⟩ (q10)).setCell ⟨w.heap.size, 11, none⟩ (q11)).setCell ⟨w.heap.size, 12, none⟩ (q12)).setCell ⟨w.heap.size, 13, none⟩ (q13)).setCell ⟨w.heap.size, 14, none⟩ (q14)).setCell ⟨w.heap.size, 15, none⟩ (q15)).heap[b]? = w9.heap[b]? := fun b hb => by
  rw [hpS hb, hpS hb, hpS hb, hpS hb, hpS hb, hpS hb, hpS hb, hpS hb, hpS hb, hpS hb, hpS hb, hpS hb, hpS hb, hpS hb, hpS hb, hpS hb]
 exact ⟨Qbt.mono _ _ _ _ _ (Qbt.same _ _ _ _ _ hX (by simp [World.setCell]) (fun b hb _ => hsame b (hS b hb).2)) (fun b _ hb => (hS b hb).1), ((((((((((((((((hR.set2 (by omega)).set2 (by omega)).set2 (by omega)).set2 (by omega)).set2 (by omega)).set2 (by omega)).set2 (by omega)).set2 (by omega)).set2 (by omega)).set2 (by omega)).set2 (by omega)).set2 (by omega)).set2 (by omega)).set2 (by omega)).set2 (by omega)).set2 (by omega)), ((((((((((((((((k.set2 (by omega)).set2 (by omega)).set2 (by omega)).set2 (by omega)).set2 (by omega)).set2 (by omega)).set2 (by omega)).set2 (by omega)).set2 (by omega)).set2 (by omega)).set2 (by omega)).set2 (by omega)).set2 (by omega)).set2 (by omega)).set2 (by omega)).set2 (by omega))⟩

def ltStore (p v : Value) : Sem Unit := Instr.storeAt 69 p v
theorem Qdf (p v : Value) : Instr.storeAt 69 p v = ltStore p v := rfl
def ltLoad (x : Value) : Sem Value := Instr.loadAt 69 x
theorem Qed (x : Value) : Instr.loadAt 69 x = ltLoad x := rfl
theorem Qiz : (Tryz.prog.info? 69).map (·.size) = some 16 := by kernel_rfl
theorem Qxf (w : World) (a : Int) : (ltStore (.pointer (some ⟨w.heap.size, 0, none⟩)) (.agg #[.int .i64 0, .string ⟨#[]⟩, .slice none 0 0, .int .i64 0, .string ⟨#[]⟩, .int .i64 0, .int .i64 0, .string ⟨#[]⟩, .slice none 0 0, .int .i64 0, .int .i64 0, .int .i64 0, .string ⟨#[]⟩, .slice none 0 0, .int .i64 0, .int .i64 a])).run Tryz.prog (w.alloc (.cells #[.int .i64 0, .string ⟨#[]⟩, .slice none 0 0, .int .i64 0, .string ⟨#[]⟩, .int .i64 0, .int .i64 0, .string ⟨#[]⟩, .slice none 0 0, .int .i64 0, .int .i64 0, .int .i64 0, .string ⟨#[]⟩, .slice none 0 0, .int .i64 0, .int .i64 0] 69)) = .ok () (w.alloc (.cells #[.int .i64 0, .string ⟨#[]⟩, .slice none 0 0, .int .i64 0, .string ⟨#[]⟩, .int .i64 0, .int .i64 0, .string ⟨#[]⟩, .slice none 0 0, .int .i64 0, .int .i64 0, .int .i64 0, .string ⟨#[]⟩, .slice none 0 0, .int .i64 0, .int .i64 a] 69)) :=
 run_storeAt_new w 69 _ _ Qiz rfl (by simp [Value.oneCell'])
theorem Qgt {S : Nat → Prop} {w : World} {cs : List Value} {x : Lt} (h : PLt S w cs x) : ∀ c ∈ cs, c.oneCell' = true := by
 obtain ⟨aa, an, ac, xa, xn, xc, ya, yn, yc, rfl, _⟩ := h
 simp [Value.oneCell', str]
theorem Qxe {rb e dp xb : Nat} {w w8 : World} {l : List Tok} {it : Nat} {x : Lt} {S : Nat → Prop} {v0 v1 v2 v3 v4 v5 v6 v7 v8 v9 v10 v11 v12 v13 v14 v15 : Value} (n8 : w8.heap[xb]? = some (.cells #[v0, v1, v2, v3, v4, v5, v6, v7, v8, v9, v10, v11, v12, v13, v14, v15] 69 (0, 0))) (q8 : w8.heap[w.heap.size]? = some ltZ) (hX : PLt S w8 [v0, v1, v2, v3, v4, v5, v6, v7, v8, v9, v10, v11, v12, v13, v14, v15] x) (hS : ∀ b, S b → w.heap.size ≤ b ∧ b ≠ w.heap.size) (hR : Rd rb e w8 l it dp) (k : Kp rb w w8) (hrb : rb < w.heap.size) :
  ∃ w9, (ltLoad (.pointer (some ⟨xb, 0, none⟩))).run Tryz.prog w8 = .ok (.agg #[v0, v1, v2, v3, v4, v5, v6, v7, v8, v9, v10, v11, v12, v13, v14, v15]) w8 ∧ (ltStore (.pointer (some ⟨w.heap.size, 0, none⟩)) (.agg #[v0, v1, v2, v3, v4, v5, v6, v7, v8, v9, v10, v11, v12, v13, v14, v15])).run Tryz.prog w8 = .ok () w9 ∧ w9.heap[w.heap.size]? = some (.cells #[v0, v1, v2, v3, v4, v5, v6, v7, v8, v9, v10, v11, v12, v13, v14, v15] 69 (0, 0)) ∧ PLt (fun b => w.heap.size ≤ b) w9 [v0, v1, v2, v3, v4, v5, v6, v7, v8, v9, v10, v11, v12, v13, v14, v15] x ∧ Rd rb e w9 l it dp ∧ Kp rb w w9 := by
 have hF := lt_fin hX hS hR k hrb v0 v1 v2 v3 v4 v5 v6 v7 v8 v9 v10 v11 v12 v13 v14 v15
 refine ⟨_, ?_, ?_, ?_, hF⟩
 ·
  refine run_loadAt_mid w8 xb 0 69 [v0, v1, v2, v3, v4, v5, v6, v7, v8, v9, v10, v11, v12, v13, v14, v15] _ (fun q v hq => ?_) Tryz.underlying69 rfl Qiz
  rw [Lib.cell_of_heap n8, Nat.zero_add, ← hq]
  simp
 ·
  refine run_storeAt_mid w8 w.heap.size 0 69 #[v0, v1, v2, v3, v4, v5, v6, v7, v8, v9, v10, v11, v12, v13, v14, v15] (fun j hj => ⟨?_, Lib.frozen_of_heap q8 _⟩) Qiz (by have := Qgt hX; simpa using this)
  have hj : j < 16 := hj
  rw [Lib.cell_of_heap q8]
  rcases (by omega : j = 0 ∨ j = 1 ∨ j = 2 ∨ j = 3 ∨ j = 4 ∨ j = 5 ∨ j = 6 ∨ j = 7 ∨ j = 8 ∨ j = 9 ∨ j = 10 ∨ j = 11 ∨ j = 12 ∨ j = 13 ∨ j = 14 ∨ j = 15) with rfl | rfl | rfl | rfl | rfl | rfl | rfl | rfl | rfl | rfl | rfl | rfl | rfl | rfl | rfl | rfl <;> rfl
 have m0 : (w8.setCell ⟨w.heap.size, 0, none⟩ v0).heap[w.heap.size]? = some (.cells #[v0, .string ⟨#[]⟩, .slice none 0 0, .int .i64 0, .string ⟨#[]⟩, .int .i64 0, .int .i64 0, .string ⟨#[]⟩, .slice none 0 0, .int .i64 0, .int .i64 0, .int .i64 0, .string ⟨#[]⟩, .slice none 0 0, .int .i64 0, .int .i64 0] 69 (0, 0)) := (Qad q8 0 _).trans rfl
 have m1 : ((w8.setCell ⟨w.heap.size, 0, none⟩ v0).setCell ⟨w.heap.size, 1, none⟩ v1).heap[w.heap.size]? = some (.cells #[v0, v1, .slice none 0 0, .int .i64 0, .string ⟨#[]⟩, .int .i64 0, .int .i64 0, .string ⟨#[]⟩, .slice none 0 0, .int .i64 0, .int .i64 0, .int .i64 0, .string ⟨#[]⟩, .slice none 0 0, .int .i64 0, .int .i64 0] 69 (0, 0)) := (Qad m0 1 _).trans rfl
 have m2 : (((w8.setCell ⟨w.heap.size, 0, none⟩ v0).setCell ⟨w.heap.size, 1, none⟩ v1).setCell ⟨w.heap.size, 2, none⟩ v2).heap[w.heap.size]? = some (.cells #[v0, v1, v2, .int .i64 0, .string ⟨#[]⟩, .int .i64 0, .int .i64 0, .string ⟨#[]⟩, .slice none 0 0, .int .i64 0, .int .i64 0, .int .i64 0, .string ⟨#[]⟩, .slice none 0 0, .int .i64 0, .int .i64 0] 69 (0, 0)) := (Qad m1 2 _).trans rfl
 have m3 : ((((w8.setCell ⟨w.heap.size, 0, none⟩ v0).setCell ⟨w.heap.size, 1, none⟩ v1).setCell ⟨w.heap.size, 2, none⟩ v2).setCell ⟨w.heap.size, 3, none⟩ v3).heap[w.heap.size]? = some (.cells #[v0, v1, v2, v3, .string ⟨#[]⟩, .int .i64 0, .int .i64 0, .string ⟨#[]⟩, .slice none 0 0, .int .i64 0, .int .i64 0, .int .i64 0, .string ⟨#[]⟩, .slice none 0 0, .int .i64 0, .int .i64 0] 69 (0, 0)) := (Qad m2 3 _).trans rfl
 have m4 : (((((w8.setCell ⟨w.heap.size, 0, none⟩ v0).setCell ⟨w.heap.size, 1, none⟩ v1).setCell ⟨w.heap.size, 2, none⟩ v2).setCell ⟨w.heap.size, 3, none⟩ v3).setCell ⟨w.heap.size, 4, none⟩ v4).heap[w.heap.size]? = some (.cells #[v0, v1, v2, v3, v4, .int .i64 0, .int .i64 0, .string ⟨#[]⟩, .slice none 0 0, .int .i64 0, .int .i64 0, .int .i64 0, .string ⟨#[]⟩, .slice none 0 0, .int .i64 0, .int .i64 0] 69 (0, 0)) := (Qad m3 4 _).trans rfl
 have m5 : ((((((w8.setCell ⟨w.heap.size, 0, none⟩ v0).setCell ⟨w.heap.size, 1, none⟩ v1).setCell ⟨w.heap.size, 2, none⟩ v2).setCell ⟨w.heap.size, 3, none⟩ v3).setCell ⟨w.heap.size, 4, none⟩ v4).setCell ⟨w.heap.size, 5, none⟩ v5).heap[w.heap.size]? = some (.cells #[v0, v1, v2, v3, v4, v5, .int .i64 0, .string ⟨#[]⟩, .slice none 0 0, .int .i64 0, .int .i64 0, .int .i64 0, .string ⟨#[]⟩, .slice none 0 0, .int .i64 0, .int .i64 0] 69 (0, 0)) := (Qad m4 5 _).trans rfl
 have m6 : (((((((w8.setCell ⟨w.heap.size, 0, none⟩ v0).setCell ⟨w.heap.size, 1, none⟩ v1).setCell ⟨w.heap.size, 2, none⟩ v2).setCell ⟨w.heap.size, 3, none⟩ v3).setCell ⟨w.heap.size, 4, none⟩ v4).setCell ⟨w.heap.size, 5, none⟩ v5).setCell ⟨w.heap.size, 6, none⟩ v6).heap[w.heap.size]? = some (.cells #[v0, v1, v2, v3, v4, v5, v6, .string ⟨#[]⟩, .slice none 0 0, .int .i64 0, .int .i64 0, .int .i64 0, .string ⟨#[]⟩, .slice none 0 0, .int .i64 0, .int .i64 0] 69 (0, 0)) := (Qad m5 6 _).trans rfl
 have m7 : ((((((((w8.setCell ⟨w.heap.size, 0, none⟩ v0).setCell ⟨w.heap.size, 1, none⟩ v1).setCell ⟨w.heap.size, 2, none⟩ v2).setCell ⟨w.heap.size, 3, none⟩ v3).setCell ⟨w.heap.size, 4, none⟩ v4).setCell ⟨w.heap.size, 5, none⟩ v5).setCell ⟨w.heap.size, 6, none⟩ v6).setCell ⟨w.heap.size, 7, none⟩ v7).heap[w.heap.size]? = some (.cells #[v0, v1, v2, v3, v4, v5, v6, v7, .slice none 0 0, .int .i64 0, .int .i64 0, .int .i64 0, .string ⟨#[]⟩, .slice none 0 0, .int .i64 0, .int .i64 0] 69 (0, 0)) := (Qad m6 7 _).trans rfl
 have m8 : (((((((((w8.setCell ⟨w.heap.size, 0, none⟩ v0).setCell ⟨w.heap.size, 1, none⟩ v1).setCell ⟨w.heap.size, 2, none⟩ v2).setCell ⟨w.heap.size, 3, none⟩ v3).setCell ⟨w.heap.size, 4, none⟩ v4).setCell ⟨w.heap.size, 5, none⟩ v5).setCell ⟨w.heap.size, 6, none⟩ v6).setCell ⟨w.heap.size, 7, none⟩ v7).setCell ⟨w.heap.size, 8, none⟩ v8).heap[w.heap.size]? = some (.cells #[v0, v1, v2, v3, v4, v5, v6, v7, v8, .int .i64 0, .int .i64 0, .int .i64 0, .string ⟨#[]⟩, .slice none 0 0, .int .i64 0, .int .i64 0] 69 (0, 0)) := (Qad m7 8 _).trans rfl
 have m9 : ((((((((((w8.setCell ⟨w.heap.size, 0, none⟩ v0).setCell ⟨w.heap.size, 1, none⟩ v1).setCell ⟨w.heap.size, 2, none⟩ v2).setCell ⟨w.heap.size, 3, none⟩ v3).setCell ⟨w.heap.size, 4, none⟩ v4).setCell ⟨w.heap.size, 5, none⟩ v5).setCell ⟨w.heap.size, 6, none⟩ v6).setCell ⟨w.heap.size, 7, none⟩ v7).setCell ⟨w.heap.size, 8, none⟩ v8).setCell ⟨w.heap.size, 9, none⟩ v9).heap[w.heap.size]? = some (.cells #[v0, v1, v2, v3, v4, v5, v6, v7, v8, v9, .int .i64 0, .int .i64 0, .string ⟨#[]⟩, .slice none 0 0, .int .i64 0, .int .i64 0] 69 (0, 0)) := (Qad m8 9 _).trans rfl
 have m10 : (((((((((((w8.setCell ⟨w.heap.size, 0, none⟩ v0).setCell ⟨w.heap.size, 1, none⟩ v1).setCell ⟨w.heap.size, 2, none⟩ v2).setCell ⟨w.heap.size, 3, none⟩ v3).setCell ⟨w.heap.size, 4, none⟩ v4).setCell ⟨w.heap.size, 5, none⟩ v5).setCell ⟨w.heap.size, 6, none⟩ v6).setCell ⟨w.heap.size, 7, none⟩ v7).setCell ⟨w.heap.size, 8, none⟩ v8).setCell ⟨w.heap.size, 9, none⟩ v9).setCell ⟨w.heap.size, 10, none⟩ v10).heap[w.heap.size]? = some (.cells #[v0, v1, v2, v3, v4, v5, v6, v7, v8, v9, v10, .int .i64 0, .string ⟨#[]⟩, .slice none 0 0, .int .i64 0, .int .i64 0] 69 (0, 0)) := (Qad m9 10 _).trans rfl
 have m11 : ((((((((((((w8.setCell ⟨w.heap.size, 0, none⟩ v0).setCell ⟨w.heap.size, 1, none⟩ v1).setCell ⟨w.heap.size, 2, none⟩ v2).setCell ⟨w.heap.size, 3, none⟩ v3).setCell ⟨w.heap.size, 4, none⟩ v4).setCell ⟨w.heap.size, 5, none⟩ v5).setCell ⟨w.heap.size, 6, none⟩ v6).setCell ⟨w.heap.size, 7, none⟩ v7).setCell ⟨w.heap.size, 8, none⟩ v8).setCell ⟨w.heap.size, 9, none⟩ v9).setCell ⟨w.heap.size, 10, none⟩ v10).setCell ⟨w.heap.size, 11, none⟩ v11).heap[w.heap.size]? = some (.cells #[v0, v1, v2, v3, v4, v5, v6, v7, v8, v9, v10, v11, .string ⟨#[]⟩, .slice none 0 0, .int .i64 0, .int .i64 0] 69 (0, 0)) := (Qad m10 11 _).trans rfl
 have m12 : (((((((((((((w8.setCell ⟨w.heap.size, 0, none⟩ v0).setCell ⟨w.heap.size, 1, none⟩ v1).setCell ⟨w.heap.size, 2, none⟩ v2).setCell ⟨w.heap.size, 3, none⟩ v3).setCell ⟨w.heap.size, 4, none⟩ v4).setCell ⟨w.heap.size, 5, none⟩ v5).setCell ⟨w.heap.size, 6, none⟩ v6).setCell ⟨w.heap.size, 7, none⟩ v7).setCell ⟨w.heap.size, 8, none⟩ v8).setCell ⟨w.heap.size, 9, none⟩ v9).setCell ⟨w.heap.size, 10, none⟩ v10).setCell ⟨w.heap.size, 11, none⟩ v11).setCell ⟨w.heap.size, 12, none⟩ v12).heap[w.heap.size]? = some (.cells #[v0, v1, v2, v3, v4, v5, v6, v7, v8, v9, v10, v11, v12, .slice none 0 0, .int .i64 0, .int .i64 0] 69 (0, 0)) := (Qad m11 12 _).trans rfl
 have m13 : ((((((((((((((w8.setCell ⟨w.heap.size, 0, none⟩ v0).setCell ⟨w.heap.size, 1, none⟩ v1).setCell ⟨w.heap.size, 2, none⟩ v2).setCell ⟨w.heap.size, 3, none⟩ v3).setCell ⟨w.heap.size, 4, none⟩ v4).setCell ⟨w.heap.size, 5, none⟩ v5).setCell ⟨w.heap.size, 6, none⟩ v6).setCell ⟨w.heap.size, 7, none⟩ v7).setCell ⟨w.heap.size, 8, none⟩ v8).setCell ⟨w.heap.size, 9, none⟩ v9).setCell ⟨w.heap.size, 10, none⟩ v10).setCell ⟨w.heap.size, 11, none⟩ v11).setCell ⟨w.heap.size, 12, none⟩ v12).setCell ⟨w.heap.size, 13, none⟩ v13).heap[w.heap.size]? = some (.cells #[v0, v1, v2, v3, v4, v5, v6, v7, v8, v9, v10, v11, v12, v13, .int .i64 0, .int .i64 0] 69 (0, 0)) := (Qad m12 13 _).trans rfl
 have m14 : (((((((((((((((w8.setCell ⟨w.heap.size, 0, none⟩ v0).setCell ⟨w.heap.size, 1, none⟩ v1).setCell ⟨w.heap.size, 2, none⟩ v2).setCell ⟨w.heap.size, 3, none⟩ v3).setCell ⟨w.heap.size, 4, none⟩ v4).setCell ⟨w.heap.size, 5, none⟩ v5).setCell ⟨w.heap.size, 6, none⟩ v6).setCell ⟨w.heap.size, 7, none⟩ v7).setCell ⟨w.heap.size, 8, none⟩ v8).setCell ⟨w.heap.size, 9, none⟩ v9).setCell ⟨w.heap.size, 10, none⟩ v10).setCell ⟨w.heap.size, 11, none⟩ v11).setCell ⟨w.heap.size, 12, none⟩ v12).setCell ⟨w.heap.size, 13, none⟩ v13).setCell ⟨w.heap.size, 14, none⟩ v14).heap[w.heap.size]? = some (.cells #[v0, v1, v2, v3, v4, v5, v6, v7, v8, v9, v10, v11, v12, v13, v14, .int .i64 0] 69 (0, 0)) := (Qad m13 14 _).trans rfl
 have m15 : ((((((((((((((((w8.setCell ⟨w.heap.size, 0, none⟩ v0).setCell ⟨w.heap.size, 1, none⟩ v1).setCell ⟨w.heap.size, 2, none⟩ v2).setCell ⟨w.heap.size, 3, none⟩ v3).setCell ⟨w.heap.size, 4, none⟩ v4).setCell ⟨w.heap.size, 5, none⟩ v5).setCell ⟨w.heap.size, 6, none⟩ v6).setCell ⟨w.heap.size, 7, none⟩ v7).setCell ⟨w.heap.size, 8, none⟩ v8).setCell ⟨w.heap.size, 9, none⟩ v9).setCell ⟨w.heap.size, 10, none⟩ v10).setCell ⟨w.heap.size, 11, none⟩ v11).setCell ⟨w.heap.size, 12, none⟩ v12).setCell ⟨w.heap.size, 13, none⟩ v13).setCell ⟨w.heap.size, 14, none⟩ v14).setCell ⟨w.heap.size, 15, none⟩ v15).heap[w.heap.size]? = some (.cells #[v0, v1, v2, v3, v4, v5, v6, v7, v8, v9, v10, v11, v12, v13, v14, v15] 69 (0, 0)) := (Qad m14 15 _).trans rfl
 exact m15
end
section
open Go.RowKit Go.Maps
theorem infoS : ∃ i0 : TypeInfo, Tryz.prog.info? 9 = some i0 ∧ i0.zero = some (.string ⟨#[]⟩) ∧ i0.size = 1 ∧ i0.bytes = 16 := by
 have h : (Tryz.prog.info? 9).map (fun i => (i.zero, i.size, i.bytes)) = some (some (.string ⟨#[]⟩), 1, 16) := by kernel_rfl
 obtain ⟨i0, hi, hi3⟩ := Option.map_eq_some_iff.1 h
 simp only [Prod.mk.injEq] at hi3
 exact ⟨i0, hi, hi3⟩
def PartS (p : PS Txt) (rb e dp : Nat) (part : Pr Txt) : Prop := ∀ (w : World) (l : List Tok) (it : Nat), Rd rb e w l it dp → Calls Tryz.prog 113 #[.pointer (some ⟨rb, 0, none⟩)] w fun en w' => Ans rb e dp w (fun w2 v x => ∃ (c0 : Txt), v = str c0 ∧ (∀ c ∈ ([str c0] : List Value), c.oneCell' = true) ∧ p (fun b => w.heap.size ≤ b) w2 [str c0] x) (part l it) en w'

theorem Qwv (p : PS Txt) (hp : PSok p) {rb e dp : Nat} {part : Pr Txt} (hpart : PartS p rb e dp part) (hshr : Shr part) {w : World} {l : List Tok} {it : Nat} (h : Rd rb e w l it dp) (sep : Txt) (hsep : sep ≠ []) (most : Nat) :
  Calls Tryz.prog 121 #[.pointer (some ⟨rb, 0, none⟩), str sep, .int .i64 (most : Int), .func (.func 113) #[.pointer (some ⟨rb, 0, none⟩)] #[]] w fun en w' => Ans rb e dp w (fun w2 v xs => LsAt p 1 (fun b => w.heap.size ≤ b) w2 v xs) (listP e sep most part l it) en w' := by
 obtain ⟨r0, hr0⟩ : ∃ r0, r0 = listP e sep most part l it := ⟨_, rfl⟩
 have hst : LI p 1 9 rb e dp sep most part r0 w (.slice none 0 0) w [] l it (l.length + 1) := ⟨Kp.refl rb w, h, ⟨[], World.ownsRow_nil _ _ _ _, ⟨rfl, fun j x cs hx => by simp at hx⟩⟩, hr0, Nat.le_refl _, by have := h.len; simpa using this⟩
 rw [← hr0]
 obtain ⟨PO, hPO⟩ : ∃ PO : Ending → World → Prop, PO = fun en w' => Ans rb e dp w (fun w2 v xs => LsAt p 1 (fun b => w.heap.size ≤ b) w2 v xs) r0 en w' := ⟨_, rfl⟩
 rw [← hPO]
 have HPO := hide hPO
 have HST := hide hst
 have HP := hide (Ya hpart (Ya hshr hp))
 have hrb := h.lt
 clear hst hr0 hPO hpart hshr h hp
 obtain ⟨i0, hi, hz, hsz, hby⟩ := infoS
 have HIN := hide (Ya hi (Ya hz (Ya hsz hby)))
 have ht : Tryz.prog.underlying 70 = some (.slice 9) := by kernel_rfl
 have HTY := hide ht
 clear hi hz hsz hby ht
 go_enter Tryz.func121, Tryz.ntmps121
 go_wp2_with fail
 go_loopw [9] (fun sl wr => ∃ acc l' it' f sa sc, sl = .slice sa (List.length acc) sc ∧ LI p 1 9 rb e dp sep most part r0 w sl wr acc l' it' f) (fun _ wr => left rb wr)
 case atStart => exact ⟨[], l, it, _, none, 0, rfl, Qa HST⟩
 obtain ⟨acc, l', it', f, sa, sc, rfl, hL⟩ := hrel
 clear HST
 obtain ⟨f', rfl⟩ : ∃ f', f = f' + 1 := ⟨f - 1, by have := hL.fuel; omega⟩
 by_cases hm : acc.length = most
 ·
  have hr := Qbr hL.rd 3
  have hE : r0 = .bad 3 (ahd e 0 l').at_ l' := by
   rw [hL.eq]
   unfold listL
   rw [if_pos hm]; rfl
  have HE := hide (Ya hE hL.kp)
  have hm2 : ((acc.length : Int) == (most : Int)) = true := by rw [hm]; simp
  clear hL hE hm
  generalize (ahd e 0 l').at_ = at0 at hr HE
  go_wp2_with fail
  refine hr.mono ?_
  clear hr
  rintro en w3 ⟨rfl, b3⟩
  have H3 := hide ((Qa HE).2.trans (Kp.of_below b3))
  clear b3
  go_wp2_with fail
  refine ⟨rfl, ?_⟩
  rw [Qa HPO, (Qa HE).1]
  exact ⟨rfl, Qa H3⟩
 have hm2 : ((acc.length : Int) == (most : Int)) = false := by simp; omega
 obtain ⟨hpart, hshr, hp⟩ := Qa HP
 have hc := hpart wr l' it' hL.rd
 have hE : r0 = (part l' it').bind fun x l i => if sgn e l = sep then listL e sep most part f' (acc ++ [x]) (l.drop 1) i else .ok (acc ++ [x]) l i := by
  rw [hL.eq]
  conv => lhs; unfold listL
  rw [if_neg hm]
 cases hq : part l' it' with
 | bad why at0 l2 =>
  rw [hq] at hc hE
  have HE := hide (Ya hE hL.kp)
  clear hL hE hm hpart hshr hp hq
  go_wp2_with fail
  refine hc.mono ?_
  clear hc
  rintro en w3 ⟨rfl, k3⟩
  have H3 := hide ((Qa HE).2.trans k3)
  clear k3
  go_wp2_with fail
  refine ⟨rfl, ?_⟩
  rw [Qa HPO, (Qa HE).1]
  exact ⟨rfl, Qa H3⟩
 | ok x l2 i2 =>
  have hle := hshr _ _ _ _ _ hq
  rw [hq] at hc hE
  have HE := hide (Ya hL hE)
  clear hL hE hm hpart hshr hp hq
  go_wp2_with fail
  refine hc.mono ?_
  clear hc
  rintro en w2 ⟨_, rfl, ⟨c0, rfl, h1, hx⟩, hR2, k2⟩
  obtain ⟨hL, hE⟩ := Qa HE
  obtain ⟨hi, hz, hsz, hby⟩ := Qa HIN
  obtain ⟨r, w8, hrun, kp8, rd8, ⟨ra, rc, er⟩, hown8⟩ := hL.more (Qa HP).2.2 (Qa HTY) hi hz hsz hby rfl (by decide) (by decide) (cs := [str c0]) rfl h1 hx hR2 k2 hrb
  subst er
  have HRUN := hide hrun
  have hsk := Qcb rd8 sep hsep
  have hfu := hL.fuel
  have hfw := hL.few
  have hlf := Qbz hL.rd
  have H8 := hide (Ya kp8 (Ya hown8 hE))
  clear hL hE hi hz hsz hby h1 hx hR2 k2 hrun kp8 rd8 hown8 HE
  go_wp2_with (at_builtin; refine Qbs _ rfl _ _ 70 rfl _ _ rfl rfl _ _ (Qa HRUN) ?_; clear HRUN)
  refine hsk.mono ?_
  clear hsk
  rintro en w9 ⟨rfl, hR9, k9⟩
  obtain ⟨kp8, ⟨css, ho8, ha8⟩, hE⟩ := Qa H8
  have own9 : w9.ownsRow w.heap.size 9 1 (.slice ra (acc.length + 1) rc) (acc ++ [x]).length css.flatten := by
   refine ⟨ho8.1, ?_⟩
   rcases ho8.2 with q | ⟨g, cap, cur, e1, e2, e3, e4⟩
   · exact .inl q
   · exact .inr ⟨g, cap, cur, e1, e2, k9.keep e3 (by omega), e4⟩
  have all9 := ha8.same (Qa HP).2.2 k9.size (fun b hs hb => k9.block b hb (by omega))
  have kp9 := kp8.trans k9
  clear kp8 ho8 ha8 k9 H8
  by_cases hS : sgn e l2 = sep
  ·
   rw [if_pos hS] at hR9
   have hS2 : decide (sgn e l2 = sep) = true := decide_eq_true hS
   obtain ⟨t2, l3, e2, hq2⟩ := Qci hS hsep
   clear hq2
   subst e2
   have hN : LI p 1 9 rb e dp sep most part r0 w (.slice ra (acc.length + 1) rc) w9 (acc ++ [x]) l3 i2 f' := ⟨kp9, hR9, ⟨css, own9, all9⟩, by rw [hE]; show (if sgn e (t2 :: l3) = sep then _ else _) = _; rw [if_pos hS]; rfl, by simp at hle; omega, by simp at hle ⊢; omega⟩
   have hl9 := Qbz hR9
   have HN := hide hN
   rw [hS2]
   have HL9 := hide (Ya hl9 (Ya hlf hle))
   clear hN hR9 own9 all9 kp9 hE hS hS2 hl9 hlf hle
   go_wp2_with fail
   go_roundw
   case rel => exact ⟨_, _, _, _, ra, rc, by simp, Qa HN⟩
   obtain ⟨q1, q2, q3⟩ := Qa HL9
   rw [q1, q2]
   simp at q3 ⊢
   omega
  rw [if_neg hS] at hR9
  have hS2 : decide (sgn e l2 = sep) = false := decide_eq_false hS
  have hF : r0 = .ok (acc ++ [x]) l2 i2 := by rw [hE]; show (if sgn e l2 = sep then _ else _) = _; rw [if_neg hS]
  have HF : Hid (r0 = .ok (acc ++ [x]) l2 i2 ∧ LsAt p 1 (fun b => w.heap.size ≤ b) w9 (.slice ra (acc.length + 1) rc) (acc ++ [x]) ∧ Rd rb e w9 l2 i2 dp ∧ Kp rb w w9) := ⟨hF, LsAt.of own9 (all9.mono (Qa HP).2.2 (fun b _ hs => hs.1)), hR9, kp9⟩
  rw [hS2]
  clear hF hR9 own9 all9 kp9 hE hS hS2 hlf hle
  go_wp2_with fail
  rw [Qa HPO, (Qa HF).1]
  exact ⟨_, rfl, (Qa HF).2⟩
end
end Go.Proofs.YtccehgfecaamoaaGreatDoor
