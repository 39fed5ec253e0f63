/- syn: what a wrong place carries is caught. syn: read. What the listed variables and the world's shape give the walks of lex; the wrap that keeps both; the law's own probe. What a law of lex finds in the world; the law's own probe answers true. Walk of the law that tokens rise. -/
import Derived.Test.YtccehgfecaamoaaGreatDoorQb19
import Derived.Defers
import Derived.Recover
import Derived.Laws.Pointers
import Derived.Test.YtccehgfecaamoaaGreatDoorRows
import Derived.Test.YtccehgfecaamoaaGreatDoorQb05
import Derived.ProofKit
import Derived.LaidMore
import Derived.OpenShut
import Derived.Stop.Joined
import Derived.Stop.LaidErr
import Derived.Lib.LaidTab
import Derived.HandedShaped
set_option maxRecDepth 100000
set_option maxHeartbeats 32000000
namespace Go.Proofs.YtccehgfecaamoaaGreatDoor
section
open Go.RowKit Go.Maps
abbrev ftZ : Obj := .cells #[.int .i64 0, .int .i64 0] 31
theorem Qsm (pb fb : Nat) (w : World) :
  CallsD Tryz.prog 24 #[.pointer (some ⟨pb, 0, none⟩), .pointer (some ⟨fb, 0, none⟩)] .returning w fun e u' w' => e = .returned (.tuple #[]) ∧ u' = .returning ∧ w' = w := by
 refine callsD_of_wpS Tryz.func24 rfl fun c₀ cs hu => ?_
 apply wpS_seq
 apply wpS_region
 simp [wpOpsS, go_sem, recoverD, hu, Tryz.ntmps24, Exit.thenS]
 refine wpS_of_wp ?_
 cases c₀
 show Code.wp _ _ _ (⟨#[.pointer (some ⟨pb, 0, none⟩), .pointer (some ⟨fb, 0, none⟩), .nilIface, undef, undef, .nilIface, undef, undef, undef, undef, undef, undef, undef, undef, undef, undef, undef, undef, undef], []⟩ : Act) _
 go_wp2_with fail
 simp_all [bodyPostS, results, Tryz.results24]
theorem Qsn {pb fb : Nat} (why at_ : Int) (older : List PanicEntry) {w : World} (hp : w.heap[pb]? = some pgZ) (hf : w.heap[fb]? = some ftZ) (hne : pb ≠ fb) :
  CallsD Tryz.prog 24 #[.pointer (some ⟨pb, 0, none⟩), .pointer (some ⟨fb, 0, none⟩)] (.panicking ({ v := stopV why at_, recovered := false } :: older)) w fun e u' w' => e = .returned (.tuple #[]) ∧ u' = .panicking ({ v := stopV why at_, recovered := true } :: older) ∧
   w'.heap[pb]? = some pgZ ∧ w'.heap[fb]? = some (.cells #[.int .i64 why, .int .i64 at_] 31) ∧ w.heap.size ≤ w'.heap.size ∧ w'.os = w.os ∧ w'.tape = w.tape ∧ w'.output = w.output ∧ ∀ k, k < w.heap.size → k ≠ pb → k ≠ fb → w'.heap[k]? = w.heap[k]? := by
 refine callsD_of_wpS Tryz.func24 rfl fun c₀ cs hu => ?_
 apply wpS_seq
 apply wpS_region
 simp [wpOpsS, go_sem, recoverD, hu, Tryz.ntmps24, Exit.thenS]
 refine wpS_of_wp ?_
 show Code.wp _ _ _ (⟨#[.pointer (some ⟨pb, 0, none⟩), .pointer (some ⟨fb, 0, none⟩), .iface 87 (.agg #[.int .i64 why, .int .i64 at_]), undef, undef, .iface 87 (.agg #[.int .i64 why, .int .i64 at_]), undef, undef, undef, undef, undef, undef, undef, undef, undef, undef, undef, undef, undef], []⟩ : Act) _
 have hta : ∀ w, (Instr.typeAssert (.iface 87 (.agg #[.int .i64 why, .int .i64 at_])) 20 87 true).run Tryz.prog w = .ok (.tuple #[.agg #[.int .i64 why, .int .i64 at_], .bool true]) w := fun w => rfl
 have hlp := Qag hp
 have hlf := Qag hf
 obtain ⟨w1, hw1⟩ : ∃ w1, w1 = w.alloc (.cells #[.int .i64 why, .int .i64 at_] 87) := ⟨_, rfl⟩
 have n1 : w1.heap[w.heap.size]? = some (.cells #[.int .i64 why, .int .i64 at_] 87 (0, 0)) := nnw hw1
 have p1 : w1.heap[pb]? = some pgZ := by rw [hw1, Below.heap_alloc _ _ _ hlp]; exact hp
 have f1 : w1.heap[fb]? = some ftZ := by rw [hw1, Below.heap_alloc _ _ _ hlf]; exact hf
 go_wp2_with fail
 rw [← hw1]
 have s1 : w1.heap.size = w.heap.size + 1 := by rw [hw1]; simp
 have bw1 : Below w.heap.size w w1 := bnw hw1
 obtain ⟨x0, x1, x2, x3, x4, xf⟩ := cl5 p1
 obtain ⟨W5, hW5⟩ : ∃ W5, W5 = (((((w1.setCell ⟨pb, 0, none⟩ (.slice none 0 0)).setCell ⟨pb, 1, none⟩ (.slice none 0 0)).setCell ⟨pb, 2, none⟩ (.slice none 0 0)).setCell ⟨pb, 3, none⟩ (.slice none 0 0)).setCell ⟨pb, 4, none⟩ (.slice none 0 0)).drew := ⟨_, rfl⟩
 have ho5 : ∀ k, k ≠ pb → W5.heap[k]? = w1.heap[k]? := fun k hk => by
  rw [hW5, show ∀ v : World, v.drew.heap = v.heap from fun _ => rfl, hpS hk, hpS hk, hpS hk, hpS hk, hpS hk]
 have p5 : W5.heap[pb]? = some pgZ := by
  rw [hW5]
  exact (Qad (Qad (Qad (Qad (Qad p1 0 _) 1 _) 2 _) 3 _) 4 _).trans rfl
 have f5 : W5.heap[fb]? = some ftZ := (ho5 fb (Ne.symm hne)).trans f1
 have n5 := (ho5 w.heap.size (by omega)).trans n1
 obtain ⟨y0, y1, yf⟩ := cl2 f5
 have hs5 : W5.heap.size = w1.heap.size := by rw [hW5, show ∀ v : World, v.drew.heap = v.heap from fun _ => rfl]; simp [World.setCell]
 have e5 : W5.os = w1.os ∧ W5.tape = w1.tape ∧ W5.output = w1.output := by rw [hW5]; exact ⟨rfl, rfl, rfl⟩
 have HN := hide (Ya n1 n5)
 have HF : Hid (((W5.setCell ⟨fb, 0, none⟩ (.int .i64 why)).setCell ⟨fb, 1, none⟩ (.int .i64 at_)).heap[w.heap.size]? = some (.cells #[.int .i64 why, .int .i64 at_] 87 (0, 0)) ∧ ((W5.setCell ⟨fb, 0, none⟩ (.int .i64 why)).setCell ⟨fb, 1, none⟩ (.int .i64 at_)).heap[pb]? = some pgZ ∧ ((W5.setCell ⟨fb, 0, none⟩ (.int .i64 why)).setCell ⟨fb, 1, none⟩ (.int .i64 at_)).heap[fb]? = some (.cells #[.int .i64 why, .int .i64 at_] 31) ∧ w.heap.size ≤ ((W5.setCell ⟨fb, 0, none⟩ (.int .i64 why)).setCell ⟨fb, 1, none⟩ (.int .i64 at_)).heap.size ∧ ((W5.setCell ⟨fb, 0, none⟩ (.int .i64 why)).setCell ⟨fb, 1, none⟩ (.int .i64 at_)).os = w.os ∧ ((W5.setCell ⟨fb, 0, none⟩ (.int .i64 why)).setCell ⟨fb, 1, none⟩ (.int .i64 at_)).tape = w.tape ∧ ((W5.setCell ⟨fb, 0, none⟩ (.int .i64 why)).setCell ⟨fb, 1, none⟩ (.int .i64 at_)).output = w.output ∧ ∀ k, k < w.heap.size → k ≠ pb → k ≠ fb → ((W5.setCell ⟨fb, 0, none⟩ (.int .i64 why)).setCell ⟨fb, 1, none⟩ (.int .i64 at_)).heap[k]? = w.heap[k]?) := by
  have ho6 : ∀ k, k ≠ fb → ((W5.setCell ⟨fb, 0, none⟩ (.int .i64 why)).setCell ⟨fb, 1, none⟩ (.int .i64 at_)).heap[k]? = W5.heap[k]? := fun k hk => by rw [hpS hk, hpS hk]
  refine ⟨(ho6 _ (by omega)).trans n5, (ho6 pb hne).trans p5, (Qad (Qad f5 0 _) 1 _).trans rfl, ?_, e5.1.trans bw1.os, e5.2.1.trans bw1.tape, e5.2.2.trans bw1.output, fun k hk hn hm => ?_⟩
  ·
   simp [World.setCell]
   omega
  · rw [ho6 k hm, ho5 k hn]; exact bw1.block k hk
 have HW5 := hide hW5
 clear hw1 hp hf n1 p1 f1 hlp hlf s1 bw1 hW5 ho5 p5 f5 n5 hs5 e5 hta
 refine Qit (m := 4) (ml := [(0, 1), (1, 1), (2, 1), (3, 0), (4, 0)]) (fun _ w' => w'.heap[w.heap.size]? = some (.cells #[.int .i64 why, .int .i64 at_] 87 (0, 0))) mixedO (by kernel_rfl) rfl (by rfl) (by kernel_rfl) (fun PP hPP => ?_)
 refine Qac rfl (by kernel_rfl) (fun _ _ _ => by go_simp <;> rfl) ?_
 refine Qac rfl (by kernel_rfl) (fun _ _ _ => by go_simp <;> rfl) ?_
 refine Qac rfl (by kernel_rfl) (fun f w' hw => by obtain ⟨u0, u1, uf⟩ := cl2 hw; go_simp <;> rfl) ?_
 refine Qaf rfl (Qa HN).1 (fun K hK => ?_)
 go_simp
 rw [← Qa HW5]
 refine hK _ _ ?_
 clear hK K HW5 x0 x1 x2 x3 x4 xf
 refine Qaf rfl (Qa HN).2 (fun K hK => ?_)
 go_simp
 refine hK _ _ ?_
 clear hK K
 refine Qbx (Qa HF).1 (hPP _ _ ?_)
 clear hPP PP
 go_wp2_with fail
 have hfin := (Qa HF).2
 cases c₀
 simp_all [bodyPostS, results, Tryz.results24]
end
section
open Go.RowKit Go.Maps
def RdAns (rb : Nat) (w : World) (r : Rs Pg) (en : Ending) (w' : World) : Prop := match r with
 | .bad why at_ _ => en = .returned (.tuple #[.agg #[.slice none 0 0, .slice none 0 0, .slice none 0 0, .slice none 0 0, .slice none 0 0], .agg #[.int .i64 why, .int .i64 at_]]) ∧ Kp rb w w'
 | .ok p _ _ => ∃ v, en = .returned (.tuple #[v, .agg #[.int .i64 0, .int .i64 0]]) ∧ VPg (fun b => w.heap.size ≤ b) w' v p ∧ Kp rb w w'
theorem read_of {rb e : Nat} {w : World} {l : List Tok} (h : Rd rb e w l 0 0) (hpr0 : ∀ w2, Below w.heap.size w w2 → Calls Tryz.prog 25 #[.pointer (some ⟨rb, 0, none⟩), .int .i64 0, str []] w2 fun en w' => Ans rb e 0 w2 (fun w3 v x => VPg (fun b => w2.heap.size ≤ b) w3 v x) (progD e 32 true l 0) en w') :
  Calls Tryz.prog 12 #[.pointer (some ⟨rb, 0, none⟩)] w fun en w' => RdAns rb w (progD e 32 true l 0) en w' := by
 have hmf : ∀ (fn : Fn) (first cap : Array Value) (w : World), (Instr.makeFunc fn first cap).run Tryz.prog w = .ok (.func fn first cap) w := fun _ _ _ _ => rfl
 obtain ⟨w2, hw2⟩ : ∃ w2, w2 = (w.alloc pgZ).alloc ftZ := ⟨_, rfl⟩
 have b2 : Below w.heap.size w w2 := by rw [hw2]; exact ((Below.refl _ w).alloc (Nat.le_refl _) _).alloc (by simp) _
 have s2 : w2.heap.size = w.heap.size + 2 := by rw [hw2]; simp
 have p2 : w2.heap[w.heap.size]? = some pgZ := by rw [hw2, Below.heap_alloc _ _ _ (by simp)]; exact heap_alloc_new w _
 have f2 : w2.heap[w.heap.size + 1]? = some ftZ := by
  rw [hw2]
  have := heap_alloc_new (w.alloc pgZ) ftZ
  simpa using this
 have hrb := h.lt
 have hpr := hpr0 w2 b2
 have HW2 : Hid (w2 = (w.alloc (.cells #[.slice none 0 0, .slice none 0 0, .slice none 0 0, .slice none 0 0, .slice none 0 0] 28)).alloc (.cells #[.int .i64 0, .int .i64 0] 31)) := hw2
 have K2 := hide (Ya (Kp.of_below (rb := rb) b2) (Ya p2 (Ya f2 s2)))
 clear b2 s2 p2 f2 hw2 h hpr0
 obtain ⟨PO, hPO⟩ : ∃ PO : Ending → World → Prop, PO = fun en w' => RdAns rb w (progD e 32 true l 0) en w' := ⟨_, rfl⟩
 rw [← hPO]
 have HPO := hide hPO
 clear hPO
 cases hq : progD e 32 true l 0 with
 | bad why at1 l4 =>
  rw [hq] at hpr HPO
  clear hq
  go_enter_defers Tryz.func12, Tryz.ntmps12
  go_wp2_with fail
  rw [← Qa HW2]
  refine hpr.mono ?_
  clear hpr HW2
  rintro en w3 ⟨rfl, k3⟩
  obtain ⟨k2, p2, f2, s2⟩ := Qa K2
  have p3 := k3.keep p2 (by omega)
  have f3 := k3.keep f2 (by omega)
  have k03 := k2.trans k3
  have hca := Qsn why at1 [] p3 f3 (by omega)
  have HK := hide k03
  clear k2 p2 f2 s2 p3 f3 k03 k3 K2
  go_wp2_with fail
  refine leaves_cons (f := 24) (args := #[.pointer (some ⟨w.heap.size, 0, none⟩), .pointer (some ⟨w.heap.size + 1, 0, none⟩)]) (by simp) (by simp [go_sem]) ?_
  refine hca.mono ?_
  rintro e u' w4 ⟨rfl, rfl, p4, f4, s4, o1, o2, o3, hot⟩
  obtain ⟨x0, x1, x2, x3, x4, xf⟩ := cl5 p4
  obtain ⟨y0, y1, yf⟩ := cl2 f4
  have hk4 : Kp rb w w4 := ⟨o1.trans (Qa HK).os, o2.trans (Qa HK).tape, o3.trans (Qa HK).output, Nat.le_trans (Qa HK).size s4, fun k hk hn => (hot k (by have := (Qa HK).size; omega) (by omega) (by omega)).trans ((Qa HK).block k hk hn)⟩
  have hfin : PO (.returned (.tuple #[.agg #[.slice none 0 0, .slice none 0 0, .slice none 0 0, .slice none 0 0, .slice none 0 0], .agg #[.int .i64 why, .int .i64 at1]])) w4 := by rw [Qa HPO]; exact ⟨rfl, hk4⟩
  clear hk4 hot
  simp [Leaves, settle, results, Tryz.results12, go_sem, x0, x1, x2, x3, x4, y0, y1]
  exact hfin
 | ok p l4 i4 =>
  rw [hq] at hpr HPO
  clear hq
  go_enter_defers Tryz.func12, Tryz.ntmps12
  go_wp2_with fail
  rw [← Qa HW2]
  refine hpr.mono ?_
  clear hpr HW2
  rintro en w3 ⟨_, rfl, ⟨a0, m0, q0, a1, m1, q1, a2, m2, q2, a3, m3, q3, a4, m4, q4, rfl, hP⟩, -, k3⟩
  obtain ⟨k2, p2, f2, s2⟩ := Qa K2
  have p3 := k3.keep p2 (by omega)
  have f3 := k3.keep f2 (by omega)
  have k03 := k2.trans k3
  obtain ⟨x0, x1, x2, x3, x4, xf⟩ := cl5 p3
  obtain ⟨w5, hw5⟩ : ∃ w5, w5 = (((((w3.setCell ⟨w.heap.size, 0, none⟩ (.slice a0 m0 q0)).setCell ⟨w.heap.size, 1, none⟩ (.slice a1 m1 q1)).setCell ⟨w.heap.size, 2, none⟩ (.slice a2 m2 q2)).setCell ⟨w.heap.size, 3, none⟩ (.slice a3 m3 q3)).setCell ⟨w.heap.size, 4, none⟩ (.slice a4 m4 q4)) := ⟨_, rfl⟩
  have ho5 : ∀ k, k ≠ w.heap.size → w5.heap[k]? = w3.heap[k]? := fun k hk => by rw [hw5, hpS hk, hpS hk, hpS hk, hpS hk, hpS hk]
  have p5 : w5.heap[w.heap.size]? = some (.cells #[.slice a0 m0 q0, .slice a1 m1 q1, .slice a2 m2 q2, .slice a3 m3 q3, .slice a4 m4 q4] 28 (0, 0)) := by rw [hw5]; exact (Qad (Qad (Qad (Qad (Qad p3 0 _) 1 _) 2 _) 3 _) 4 _).trans rfl
  have f5 := (ho5 (w.heap.size + 1) (by omega)).trans f3
  obtain ⟨y0, y1, yf⟩ := cl2 f5
  obtain ⟨w7, hw7⟩ : ∃ w7, w7 = (w5.setCell ⟨w.heap.size + 1, 0, none⟩ (.int .i64 0)).setCell ⟨w.heap.size + 1, 1, none⟩ (.int .i64 0) := ⟨_, rfl⟩
  have ho7 : ∀ k, k ≠ w.heap.size + 1 → w7.heap[k]? = w5.heap[k]? := fun k hk => by rw [hw7, hpS hk, hpS hk]
  have f7 : w7.heap[w.heap.size + 1]? = some (.cells #[.int .i64 0, .int .i64 0] 31 (0, 0)) := by rw [hw7]; exact (Qad (Qad f5 0 _) 1 _).trans rfl
  have p7 := (ho7 w.heap.size (by omega)).trans p5
  have hs : w3.heap.size ≤ w7.heap.size := by rw [hw7, hw5]; simp [World.setCell]
  have k7 : Kp rb w w7 := by rw [hw7, hw5]; exact ((((((k03.set2 (by omega)).set2 (by omega)).set2 (by omega)).set2 (by omega)).set2 (by omega)).set2 (by omega)).set2 (by omega)
  have hP7 : VPg (fun b => w.heap.size ≤ b) w7 (.agg #[.slice a0 m0 q0, .slice a1 m1 q1, .slice a2 m2 q2, .slice a3 m3 q3, .slice a4 m4 q4]) p := ⟨_, _, _, _, _, _, _, _, _, _, _, _, _, _, _, rfl, Qao.mono _ _ _ _ _ (Qao.same _ _ w7 _ _ hP hs (fun b hb _ => by have hb' : w2.heap.size ≤ b := hb; exact (ho7 b (by omega)).trans (ho5 b (by omega)))) (fun b _ hb => by have hb' : w2.heap.size ≤ b := hb; omega)⟩
  have hfin : PO (.returned (.tuple #[.agg #[.slice a0 m0 q0, .slice a1 m1 q1, .slice a2 m2 q2, .slice a3 m3 q3, .slice a4 m4 q4], .agg #[.int .i64 0, .int .i64 0]])) w7 := by rw [Qa HPO]; exact ⟨_, rfl, hP7, k7⟩
  have HW7 := hide hw7
  have HU := hide (Ya p7 (Ya f7 hfin))
  clear hP k2 p2 f2 s2 p3 f3 k03 k3 K2 ho5 p5 f5 hw7 ho7 f7 p7 hs k7 hP7 hfin
  subst hw5
  go_wp2_with fail
  rw [← Qa HW7]
  obtain ⟨p7, f7, hfin⟩ := Qa HU
  obtain ⟨u0, u1, u2, u3, u4, uf⟩ := cl5 p7
  obtain ⟨t0, t1, tf⟩ := cl2 f7
  clear p7 f7 HU HW7
  refine leaves_cons (f := 24) (args := #[.pointer (some ⟨w.heap.size, 0, none⟩), .pointer (some ⟨w.heap.size + 1, 0, none⟩)]) (by simp) (by simp [go_sem]) ?_
  refine (Qsm w.heap.size (w.heap.size + 1) w7).mono ?_
  rintro e u' w'' ⟨rfl, rfl, rfl⟩
  simp [Leaves, settle, results, Tryz.results12, go_sem, u0, u1, u2, u3, u4, t0, t1]
  exact hfin
theorem Jbd {rb e : Nat} {w : World} {l : List Tok} (h : Rd rb e w l 0 0) :
  Calls Tryz.prog 12 #[.pointer (some ⟨rb, 0, none⟩)] w fun en w' => RdAns rb w (progD e 32 true l 0) en w' := read_of h (fun _ b => Qph (h.later b))
end
section
open Go.ChangeShapes Go.WideShapes Go.ChangeAt Go.WideMaps Go.WideElems Go.RowKit
section
variable {H : Type} {enc : TypeId × Value → H}
theorem Jby {a : Assume} {C : Checked} {os : Os} {f : FuncId} {fn : Func} {s : ChangeSpec} {conds : List PathCond} {apart fresh handsOn again : Bool} {X : World → Array Value → Prop}
  (hX : ∀ (w w' : World) (args : Array Value), w.heap = w'.heap → X w args → X w' args)
  (own : ownKnob C.prog.godebug = none) (started : os.Started) (noInit : C.prog.inits.idxOf? f = none) (hfn : C.prog.funcs[f]? = some fn)
  (witness : ∃ (w : World) (tape : Tape) (i : Input), w.os = os ∧ (w.forCall tape i).Shaped C.prog ∧ i.vars = [] ∧ Input.okWide C.prog (w.forCall tape i) .any w.heap.size f i ∧
   ((s.pre enc C.prog fn conds apart (w.forCall tape i).memory i.args ∧ X (w.forCall tape i).memory i.args) ∧ sizedMet enc C.prog fn (OpenSpec.ofChange s) apart (w.forCall tape i).memory i.args) ∧ a.holds C.prog (lone (Frame.enter C.prog f i.args .normal) [] (w.forCall tape i)))
  (walk : ∀ (W : World) (base : Nat) (args : Array Value) (ds gs : List (DataW H)) (before : List MemPlace),
   (∀ (j : Nat) t v, fn.params[j]? = some t → args[j]? = some v → Value.okWide C.prog W .any base t v) →
   DataW.Whole enc C.prog fn.params.toList s.vars apart W args.toList ds gs before →
   (DataW.weightsEach C.prog (fn.params.toList ++ s.plain.varTypes C.prog) (ds ++ gs)).all (· ≤ reachBytes) = true → X W args → W.ShapedOpen C.prog →
   Calls C.prog f args W fun e W' => ∃ v, e = .returned v ∧ s.post enc C.prog fn apart fresh handsOn again W args v W') :
  ReturnsInHanded a C os f .any (fun w args => (s.pre enc C.prog fn conds apart w args ∧ X w args) ∧ sizedMet enc C.prog fn (OpenSpec.ofChange s) apart w args) (s.post enc C.prog fn apart fresh handsOn again) := by
 refine returnsInHanded_of_calls own started noInit witness ?_
 intro w tape i _ hsh _ hok hpre _
 obtain ⟨_, _, _, fn', hfn', _, _, _, _, hval⟩ := hok
 have e : fn' = fn := Option.some.inj (hfn'.symm.trans hfn)
 subst e
 obtain ⟨⟨⟨ds, gs, before, hw, _⟩, hx⟩, hz⟩ := hpre
 have hw' := DataW.Whole.of_heap (w' := w.forCall tape i) (by rfl) hw
 refine (walk (w.forCall tape i) w.heap.size i.args ds gs before hval hw' (hz.weights hw) (hX _ _ _ (by rfl) hx) hsh).mono fun e W' ⟨v, he, hp⟩ => ?_
 subst he
 exact ChangeSpec.post_blind hp
end

theorem own : ownKnob Tryz.prog.godebug = none := by kernel_rfl

theorem Qkt {H : Type} {enc : TypeId × Value → H} {P : Program} {w : World} {base : Nat} {sp : Nat → Bool} {held : Bool} {fuel : Nat} {t e : TypeId} {n : Nat} {cs : List Value} {zs : List Txt} {p : List MemPlace}
  (ht : P.underlying t = some (.array n e)) (he : P.underlying e = some .string) (hce : P.cellsOf e = 1) (hct : P.cellsOf t = n)
  (h : DataW.trod enc P w base sp held fuel t cs = some (.agg (zs.map fun z => .lit (.string z)), p)) : cs = zs.map str := by
 cases fuel with
 | zero => simp [DataW.trod] at h
 | succ fuel =>
  simp only [DataW.trod, ht, hce, hct, Nat.mul_one] at h
  split at h
  ·
   rename_i hl
   obtain ⟨xs, hm, hx⟩ := Option.map_eq_some_iff.1 h
   have hxs : xs.map (·.1) = zs.map fun z => (DataW.lit (.string z) : DataW H) := by
    have := congrArg Prod.fst hx
    simpa using this
   have hxl : xs.length = n := by simpa using Lib.mapM_length hm
   have hzl : zs.length = n := by
    have := congrArg List.length hxs
    simp at this
    omega
   apply List.ext_getElem?
   intro i
   by_cases hi : i < n
   ·
    obtain ⟨b, hb, hf⟩ := Lib.mapM_at hm i i (by simp [hi])
    obtain ⟨z, hc, rfl, _⟩ := DataW.trod_string he hf
    have h1 : cs[i]? = some (.string z) := by
     have := congrArg (·[0]?) hc
     simpa [List.getElem?_take, List.getElem?_drop] using this
    have h2 : (xs.map (·.1))[i]? = some (DataW.lit (.string z.data.toList) : DataW H) := by simp [hb]
    rw [hxs] at h2
    simp only [List.getElem?_map, Option.map_eq_some_iff, DataW.lit.injEq, Lit.string.injEq] at h2
    obtain ⟨z', hz', e⟩ := h2
    rw [h1, List.getElem?_map, hz', e]
    simp [str]
   · rw [List.getElem?_eq_none (by omega), List.getElem?_eq_none (by simp; omega)]
  · cases h
end
section
open Go.ChangeShapes Go.WideShapes Go.ChangeAt Go.WideMaps Go.WideElems Go.RowKit
theorem gHeads : Tryz.prog.globalNamed "vestry/lex.heads" = some 0 := by kernel_rfl
theorem tHeads : (Tryz.prog.globals[0]?).map (·.type) = some 174 := by kernel_rfl
theorem gSigns : Tryz.prog.globalNamed "vestry/lex.signs" = some 1 := by kernel_rfl
theorem tSigns : (Tryz.prog.globals[1]?).map (·.type) = some 177 := by kernel_rfl
theorem gRange : Tryz.prog.globalNamed "strconv.ErrRange" = some 4 := by kernel_rfl
theorem tRange : (Tryz.prog.globals[4]?).map (·.type) = some 167 := by kernel_rfl
theorem cellsA : Tryz.prog.cellsOf 174 = 4 := by kernel_rfl
theorem cellsB : Tryz.prog.cellsOf 177 = 23 := by kernel_rfl
theorem cells9 : Tryz.prog.cellsOf 9 = 1 := by kernel_rfl
theorem starred : "*" ++ "errors.errorString" = "*errors.errorString" := by decide
theorem rowE (u : TypeId) (h : Tryz.prog.typeName? 3 u = some "*errors.errorString") : u = 232 :=
 typeName_ptr_named (nm := "errors.errorString") (by rw [starred]; kernel_rfl) (by kernel_rfl) (by decide) u (by rw [starred]; exact h)
theorem cellsE : Tryz.prog.cellsOf 234 = 1 := by kernel_rfl

theorem Qz {W : World} {name : String} {g : Nat} {t : TypeId} {n : Nat} {zs : List Txt} {rest : List (String × DataW Unit)} (hg : Tryz.prog.globalNamed name = some g) (hty : (Tryz.prog.globals[g]?).map (·.type) = some t)
  (ht : Tryz.prog.underlying t = some (.array n 9)) (hct : Tryz.prog.cellsOf t = n) (h : laidMet Tryz.prog ((name, .agg (zs.map fun z => .lit (.string z))) :: rest) W) :
  ∀ (i : Nat) (x : Txt), zs[i]? = some x → W.cell? ⟨g, i, none⟩ = some (str x) := by
 obtain ⟨ps, ⟨g', t', cs, fuel, p, q, hg', ht', hvar, hd, _, _⟩, _⟩ := h
 obtain rfl := Option.some.inj (hg.symm.trans hg')
 obtain rfl := Option.some.inj (hty.symm.trans ht')
 have hcs := Qkt ht Tryz.underlying9 cells9 hct hd
 intro i x hx
 have := World.var?_cell hg hvar i
 rw [this, ← Array.getElem?_toList, hcs, List.getElem?_map, hx]
 rfl

theorem env_of {W : World} (h : laidMetH Tryz.prog Rows.showAgainRow.laid W) (hsh : W.ShapedOpen Tryz.prog) : Env W := by
 rw [MakeChecks.laidMetH_plain _ _ _ (by kernel_rfl)] at h
 have h3 : laidMet Tryz.prog (("strconv.ErrRange", Rows.laid_strconv_ErrRange) :: [("strconv.ErrSyntax", Rows.laid_strconv_ErrSyntax), ("vestry/lex.heads", Rows.laid_vestry_lex_heads), ("vestry/lex.signs", Rows.laid_vestry_lex_signs)]) W := laidMet.tail (laidMet.tail (laidMet.tail h))
 have h5 : laidMet Tryz.prog (("vestry/lex.heads", Rows.laid_vestry_lex_heads) :: [("vestry/lex.signs", Rows.laid_vestry_lex_signs)]) W := laidMet.tail (laidMet.tail h3)
 have h6 : laidMet Tryz.prog (("vestry/lex.signs", Rows.laid_vestry_lex_signs) :: []) W := laidMet.tail h5
 obtain ⟨a0, s0, hv0, -, -, -⟩ := laid_sentinel h3 gRange tRange Tryz.underlying167 rowE Tryz.underlying232 Tryz.underlying234 rfl rfl Tryz.underlying9 cellsE cells9
 refine ⟨⟨?_, ?_⟩, Tryz.laysM143.s1_3 W hsh, ⟨_, _, hv0⟩⟩
 · exact Qz (zs := hds) gHeads tHeads Tryz.underlying174 cellsA h5
 · exact Qz (zs := sgs) gSigns tSigns Tryz.underlying177 cellsB h6

theorem doorL (os : Os) (args : Array Value) : laidMetH Tryz.prog Rows.showAgainRow.laid ((World.doorLaid Tryz.prog 72 os).forCall (fun _ _ => 0) ⟨#[], args, []⟩).memory :=
 laidMetH_of_parts3 (fuel := 8) (laidMet_of_run' 8 (by kernel_rfl) (by kernel_rfl)) (by kernel_rfl) (by kernel_rfl)

def five : List Tok := [⟨1, [100, 46, 112, 97, 116, 104], 0, 0⟩, ⟨4, [40], 0, 6⟩, ⟨2, [], 1, 7⟩, ⟨4, [41], 0, 8⟩, ⟨4, [46], 0, 9⟩]
structure RowAt (w : World) (g cap : Nat) (toks : List Tok) : Prop where
 lt : g < w.heap.size
 le : toks.length ≤ cap
 cm : cap ≤ maxLen
 cells : ∀ (i : Nat) (t : Tok), toks[i]? = some t → w.cell? ⟨g, i * 4, none⟩ = some (.int .i64 t.kind) ∧ w.cell? ⟨g, i * 4 + 1, none⟩ = some (str t.text) ∧ w.cell? ⟨g, i * 4 + 2, none⟩ = some (.int .i64 t.num) ∧ w.cell? ⟨g, i * 4 + 3, none⟩ = some (.int .i64 (t.at_ : Int))
theorem RowAt.later {w w' : World} {g cap : Nat} {toks : List Tok} (h : RowAt w g cap toks) (hb : Below w.heap.size w w') : RowAt w' g cap toks :=
 ⟨Nat.lt_of_lt_of_le h.lt hb.size, h.le, h.cm, fun i t ht => by
  have := h.cells i t ht
  rw [← hb.cell (p := ⟨g, i * 4, none⟩) h.lt, ← hb.cell (p := ⟨g, i * 4 + 1, none⟩) h.lt, ← hb.cell (p := ⟨g, i * 4 + 2, none⟩) h.lt, ← hb.cell (p := ⟨g, i * 4 + 3, none⟩) h.lt] at this
  exact this⟩
theorem Qjb : ∀ (l : List Tok) (i : Nat) (t : Tok), l[i]? = some t → ∀ q, q < 4 → (tokCells l)[i * 4 + q]? = (tokVals t)[q]?
 | [], i, t, h => by simp at h
 | x :: l, 0, t, h => fun q hq => by
  simp at h; subst h
  have : tokCells (x :: l) = tokVals x ++ tokCells l := rfl
  rw [this, Nat.zero_mul, Nat.zero_add, List.getElem?_append_left (by simpa [tokVals] using hq)]
 | x :: l, i + 1, t, h => fun q hq => by
  have : tokCells (x :: l) = tokVals x ++ tokCells l := rfl
  have e : (tokVals x).length = 4 := rfl
  rw [this, List.getElem?_append_right (by rw [e]; omega), e, show (i + 1) * 4 + q - 4 = i * 4 + q by omega]
  exact Qjb l i t (by simpa using h) q hq
theorem Jdh {w : World} {B : Nat} {v : Value} {toks : List Tok} (h : w.ownsRow B 83 4 v toks.length (tokCells toks)) :
  (v = .slice none 0 0 ∧ toks = []) ∨ ∃ g cap, v = .slice (some ⟨g, 0, none⟩) toks.length cap ∧ RowAt w g cap toks := by
 rcases h.2 with ⟨h1, h2⟩ | ⟨g, cap, cur, hv, hg, hh, hle, hcm, hcs, ht⟩
 · exact .inl ⟨h1, List.eq_nil_of_length_eq_zero h2⟩
 refine .inr ⟨g, cap, hv, (Array.getElem?_eq_some_iff.1 hh).1, hle, hcm, fun i t hi => ?_⟩
 have hlen : i < toks.length := (List.getElem?_eq_some_iff.1 hi).1
 have key : ∀ q v, q < 4 → (tokVals t)[q]? = some v → w.cell? ⟨g, i * 4 + q, none⟩ = some v := fun q v hq hv => by
  rw [Lib.cell_of_heap hh, ← Array.getElem?_toList]
  have h1 : (cur.toList.take (toks.length * 4))[i * 4 + q]? = (tokCells toks)[i * 4 + q]? := by rw [ht]
  rw [List.getElem?_take, if_pos (by omega)] at h1
  rw [h1, Qjb toks i t hi q hq, hv]
 exact ⟨key 0 _ (by omega) rfl, key 1 _ (by omega) rfl, key 2 _ (by omega) rfl, key 3 _ (by omega) rfl⟩
end
section
open Go.RowKit
def Ris (k n : Nat) : List Tok → Prop
 | [] => True
 | t :: l => k ≤ t.at_ ∧ t.at_ < n ∧ Ris (t.at_ + 1) n l
theorem Ris.mono {n : Nat} : ∀ {l : List Tok} {k j : Nat}, j ≤ k → Ris k n l → Ris j n l
 | [], _, _, _, _ => trivial
 | _ :: _, _, _, h, hr => ⟨Nat.le_trans h hr.1, hr.2⟩
theorem Jbf : ∀ (m : Nat) (r : Txt) (k : Nat), r.length ≤ m → match scan k r with | .ok l => Ris k (k + r.length) l | .bad why a => why ≠ 0 ∧ a ≤ k + r.length := by
 intro m
 induction m with
 | zero =>
  intro r k h
  have : r = [] := List.eq_nil_of_length_eq_zero (by omega)
  subst this
  rw [Qcs]; trivial
 | succ m ih =>
  intro r k h
  by_cases h0 : r = []
  · subst h0; rw [Qcs]; trivial
  cases hg : gapAt r with
  | never => rw [Qeg hg]; exact ⟨by decide, by omega⟩
  | gap n =>
   have hp := Qfx hg
   have := ih (r.drop n) (k + n) (by rw [List.length_drop]; omega)
   rw [Qfq hg]
   rw [List.length_drop, show k + n + (r.length - n) = k + r.length by omega] at this
   cases hs : scan (k + n) (r.drop n) with
   | ok l => rw [hs] at this; exact Ris.mono (by omega) this
   | bad w a => rw [hs] at this; exact this
  | none =>
   cases ht : tokAt r with
   | bad w o =>
    rw [Qgj h0 hg ht]
    have := Qzb ht
    exact ⟨this.1, by omega⟩
   | tok kd tx nm n =>
    have hp := Qg ht
    have := ih (r.drop n) (k + n) (by rw [List.length_drop]; omega)
    rw [Qfr hg ht]
    rw [List.length_drop, show k + n + (r.length - n) = k + r.length by omega] at this
    cases hs : scan (k + n) (r.drop n) with
    | ok l => rw [hs] at this; exact ⟨Nat.le_refl _, by show k < _; omega, Ris.mono (by show k + 1 ≤ _; omega) this⟩
    | bad w a => rw [hs] at this; exact this
theorem Qwq (l : Txt) : match lexP l with | .ok t => Ris 0 l.length t | .bad why a => why ≠ 0 ∧ a ≤ l.length := by
 unfold lexP
 by_cases h : 65536 < l.length
 · rw [if_pos h]; exact ⟨by decide, Nat.zero_le _⟩
 rw [if_neg h]
 have := Jbf l.length l 0 (Nat.le_refl _)
 rwa [Nat.zero_add] at this
theorem Qu (s : ByteArray) (hs : s.size ≤ 281474976710656) (w : World) (hE : Env w) :
  Calls Tryz.prog 11 #[.string s] w fun e w' => TokAns (lexP s.data.toList) w w' e := by
 by_cases h : 65536 < s.size
 · exact Qpp s h hs w
 · exact Qua s (by omega) w hE

def RsRel (n : Nat) (toks : List Tok) (w : World) (g cap : Nat) (a i : Value) (wr : World) : Prop :=
 ∃ (j lo : Nat), i = .int .i64 (j : Int) ∧ a = .int .i64 ((lo : Int) - 1) ∧ j ≤ toks.length ∧ lo ≤ n ∧ Hid (Below w.heap.size w wr ∧ RowAt wr g cap toks ∧ Ris lo n (toks.drop j))

attribute [local go_sem ↓] Qgy Qik
end
end Go.Proofs.YtccehgfecaamoaaGreatDoor
