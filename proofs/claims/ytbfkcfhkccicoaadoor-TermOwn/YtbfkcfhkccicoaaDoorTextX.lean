/- Walks of the text of a value: writeCon, write, Text. -/
import Derived.Test.YtbfkcfhkccicoaaDoorTextW
namespace Go.Proofs.YtbfkcfhkccicoaaDoor
open Go.RowKit

theorem append_data (a b : ByteArray) : (a ++ b).data.toList = a.data.toList ++ b.data.toList := by
  rw [ByteArray.data_append, Array.toList_append]
theorem append_size (a b : ByteArray) : (a ++ b).size = a.size + b.size := ByteArray.size_append

set_option maxRecDepth 100000 in
set_option maxHeartbeats 4000000 in
theorem wcon_any (v : V) (ih : ∀ i, i < v.len → WriteC (v.kid i)) (B b : Nat) (l : List UInt8) (w : World) (d : Nat) (hat : v.At B w) (h : Bld B b l w) (hBw : B ≤ w.heap.size) (ht : Tbl B w) (hm : v.may d = true)
    (hlen : l.length + 131100 * v.size ≤ 1000000000000) (hk : v.kind = 3) :
    Calls Tryd.prog 41 #[.pointer (some ⟨b, 0, none⟩), v.val] w fun e w' => e = .returned (.tuple #[]) ∧ Bld B b (l ++ v.text) w' ∧ Kept B b w w' := by
  have hmk := hm
  rw [may_con hk] at hmk
  simp only [Bool.and_eq_true, decide_eq_true_eq] at hmk
  obtain ⟨⟨⟨⟨hg1, hg2⟩, hwd⟩, h8⟩, hkids⟩ := hmk
  clear hg1 hg2
  have hs := wd_size hwd
  have hl := hat.flat.l
  have HT := hide (V.text_con hk)
  have IH := hide ih
  have HM : Hid (∀ i, i < v.len → (v.kid i).may (d - 1) = true) := fun i hi => (allTo_iff _ _).1 hkids i hi
  have hsz := V.size_eq v
  have HJ : Hid (∀ k, k ≤ v.len → (joinTo (fun i => (v.kid i).text) k).length ≤ 131100 * sumTo (fun i => (v.kid i).size) k + 2 * k) := fun k hk2 =>
    joinTo_len (fun i hi => text_len _ B w (d - 1) (hat.kid i (by omega)) ((allTo_iff _ _).1 hkids i (by omega)))
  have HSZ := hide hsz
  have H := hide h
  have HTB := hide ht
  have HSTR : Hid (((⟨#[36]⟩ : ByteArray) ++ v.str ++ (⟨#[40]⟩ : ByteArray)).data.toList = [36] ++ v.str.data.toList ++ [40]) := by
    show _ = _
    rw [append_data, append_data]
  have HSS : Hid (((⟨#[36]⟩ : ByteArray) ++ v.str ++ (⟨#[40]⟩ : ByteArray)).size ≤ 66) := by
    show _ ≤ _
    rw [append_size, append_size]
    have e1 : (⟨#[36]⟩ : ByteArray).size = 1 := rfl
    have e2 : (⟨#[40]⟩ : ByteArray).size = 1 := rfl
    omega
  clear hm hkids ih hsz h ht hwd
  unfold V.val
  generalize hA : v.addr = A
  have HA := hide hA
  clear hA
  have HK := hide hk
  go_enter Tryd.func41, Tryd.ntmps41
  clear hk
  go_wp2_with fail
  obtain ⟨o, ho⟩ : ∃ o, o = Obj.cells #[.int .i64 v.kind, .int .i64 v.num, .string v.str, .slice A v.len v.cap] 32 := ⟨_, rfl⟩
  rw [← ho]
  have hb1 : Below w.heap.size w (w.alloc o) := below_box w o
  have hblt := (unhide H).lt
  have hkw : Kept B b w (w.alloc o) := (Kept.refl B b w).later hb1 hBw
  refine (wstr_any B b l _ _ ((unhide H).later hb1) (by have := unhide HSS; omega) (by simp; omega)).mono ?_
  rintro e w2 ⟨rfl, h2, k2⟩
  rw [unhide HSTR] at h2
  have hq : w2.heap[w.heap.size]? = some o := k2.others w.heap.size o (World.alloc_heap_new w o) (by intro e; injection e with e; omega) (by intro c fz e; rw [ho] at e; injection e with _ e _; cases e)
  have z3 : w2.cell? ⟨w.heap.size, 3, .none⟩ = some (.slice A v.len v.cap) := by simp only [World.cell?]; rw [hq, ho]; rfl
  have HB2 := hide h2
  have HK2 := hide (hkw.trans k2)
  clear h2 k2 hkw hb1 hq
  go_wp2_with fail
  clear z3
  go_loopw [15] (fun i wr => ∃ k : Nat, k ≤ v.len ∧ i = .int .i64 k ∧ Hid (Bld B b (l ++ ([36] ++ v.str.data.toList ++ [40]) ++ joinTo (fun i => (v.kid i).text) k) wr) ∧ Hid (Kept B b w wr)) (fun i _ => v.len - (intOf i).toNat)
  case atStart =>
    refine ⟨0, Nat.zero_le _, rfl, ?_, HK2⟩
    show Bld _ _ _ _
    simpa [joinTo] using unhide HB2
  case round =>
    obtain ⟨k, hk, rfl, hb, hkp⟩ := hrel
    have hszr : Hid (B ≤ wr.heap.size) := Nat.le_trans hBw (unhide hkp).below.size
    have hstr : v.str.data.toList.length ≤ 64 := by
      have e : v.str.data.toList.length = v.str.size := by rw [Array.length_toList]; rfl
      omega
    have hsum : Hid (131100 * sumTo (fun i => (v.kid i).size) v.len + 131100 + l.length ≤ 1000000000000) := by
      have := unhide HSZ
      show _ ≤ _
      omega
    have hln : Hid ((l ++ ([36] ++ v.str.data.toList ++ [40]) ++ joinTo (fun i => (v.kid i).text) k).length ≤ l.length + 66 + (131100 * sumTo (fun i => (v.kid i).size) k + 2 * k)) := by
      have := unhide HJ k hk
      show _ ≤ _
      simp only [List.length_append, List.length_cons, List.length_nil]; omega
    have HSTL := hide hstr
    clear hstr
    by_cases hlt : k < v.len
    · have hatr : v.At B wr := hat.below (unhide hkp).below
      obtain ⟨g, og, ha, hg, hc⟩ := hatr.flat.at_ k hlt
      rw [unhide HA] at ha
      subst ha
      have c0 := hc.c0
      have c1 := hc.c1
      have c2 := hc.c2
      have c3 := hc.c3
      have hmon : Hid (sumTo (fun i => (v.kid i).size) k + (v.kid k).size ≤ sumTo (fun i => (v.kid i).size) v.len) := by
        have := sumTo_mono (f := fun i => (v.kid i).size) (i := k + 1) (n := v.len) (by omega)
        exact this
      have hbox := boxed wr (v.kid k)
      have hkb : Kept B b w (wr.alloc (v.kid k).obj) := (unhide hkp).later (below_box wr _) (unhide hszr)
      have hbb : Bld B b (l ++ ([36] ++ v.str.data.toList ++ [40]) ++ joinTo (fun i => (v.kid i).text) k) (wr.alloc (v.kid k).obj) := (unhide hb).later (below_box wr _)
      have hblr := (unhide hb).lt
      have HBB := hide hbb
      have HKB := hide hkb
      clear hbb hkb hc
      have htb : Hid (Tbl B wr) := (unhide HTB).below (unhide hkp).below
      by_cases h0 : k = 0
      · have e0 : ¬ 0 < k := by omega
        have H0 := hide h0
        clear h0 hbox
        go_wp2_with fail
        refine (unhide IH k hlt B b _ _ (d - 1) ((hatr.kid k hlt).below ((below_box wr _).mono (unhide hszr))) (unhide HBB) (by have := unhide hszr; simp; omega) ((unhide htb).below ((below_box wr _).mono (unhide hszr))) (unhide HM k hlt)
          (by have h1 := unhide hln; have h2 := unhide hmon; have h3 := unhide hsum; omega)).mono ?_
        rintro e w3 ⟨rfl, h3, k3⟩
        have hF : Hid (Kept B b w w3) := (unhide HKB).trans k3
        have hB3 : Hid (Bld B b (l ++ ([36] ++ v.str.data.toList ++ [40]) ++ joinTo (fun i => (v.kid i).text) (k + 1)) w3) := by
          show Bld _ _ _ _
          simp only [joinTo]
          rw [if_pos (unhide H0), List.nil_append, ← List.append_assoc]; exact h3
        clear h3 k3 c0 c1 c2 c3
        go_wp2_with fail
        go_roundw
        case rel => exact ⟨k + 1, by omega, by go_num, hB3, hF⟩
        case measure => simp [intOf]; omega
      · have e0 : 0 < k := by omega
        have H0 := hide h0
        clear h0
        go_wp2_with fail
        refine (wstr_any B b _ ⟨#[44, 32]⟩ _ (unhide HBB) (show _ + 2 ≤ _ by have h1 := unhide hln; have h2 := unhide hmon; have h3 := unhide hsum; omega) (by have := unhide hszr; simp; omega)).mono ?_
        rintro e w3 ⟨rfl, h3, k3⟩
        have hq : w3.heap[wr.heap.size]? = some (v.kid k).obj := k3.others wr.heap.size (v.kid k).obj (World.alloc_heap_new wr _) (by intro e; injection e with e; omega) (by intro c fz e; injection e with _ e _; cases e)
        have d0 : w3.cell? ⟨wr.heap.size, 0, .none⟩ = some (.int .i64 (v.kid k).kind) := by simp only [World.cell?]; rw [hq]; rfl
        have d1 : w3.cell? ⟨wr.heap.size, 1, .none⟩ = some (.int .i64 (v.kid k).num) := by simp only [World.cell?]; rw [hq]; rfl
        have d2 : w3.cell? ⟨wr.heap.size, 2, .none⟩ = some (.string (v.kid k).str) := by simp only [World.cell?]; rw [hq]; rfl
        have d3 : w3.cell? ⟨wr.heap.size, 3, .none⟩ = some (.slice (v.kid k).addr (v.kid k).len (v.kid k).cap) := by simp only [World.cell?]; rw [hq]; rfl
        have hk3 := (unhide HKB).trans k3
        have hsz3 : B ≤ w3.heap.size := Nat.le_trans hBw hk3.below.size
        have H3 := hide h3
        have HK3 := hide hk3
        have HZ3 := hide hsz3
        clear h3 k3 hk3 hq hsz3 hbox
        go_wp2_with fail
        refine (unhide IH k hlt B b _ _ (d - 1) ((hat.kid k hlt).below (unhide HK3).below) (unhide H3) (unhide HZ3) ((unhide HTB).below (unhide HK3).below) (unhide HM k hlt)
          (by have h1 := unhide hln; have h2 := unhide hmon; have h3 := unhide hsum; simp only [List.length_append, List.length_cons, List.length_nil] at h1 ⊢; omega)).mono ?_
        rintro e w4 ⟨rfl, h4, k4⟩
        have hF : Hid (Kept B b w w4) := (unhide HK3).trans k4
        have hB3 : Hid (Bld B b (l ++ ([36] ++ v.str.data.toList ++ [40]) ++ joinTo (fun i => (v.kid i).text) (k + 1)) w4) := by
          show Bld _ _ _ _
          simp only [joinTo]
          rw [if_neg (unhide H0), ← List.append_assoc, ← List.append_assoc]; exact h4
        clear h4 k4 c0 c1 c2 c3 d0 d1 d2 d3
        go_wp2_with fail
        go_roundw
        case rel => exact ⟨k + 1, by omega, by go_num, hB3, hF⟩
        case measure => simp [intOf]; omega
    · have : k = v.len := by omega
      subst this
      go_wp2_with fail
      refine (wbyte_any B b _ 41 41 rfl _ (unhide hb) (by have h1 := unhide hln; have h3 := unhide hsum; omega) (unhide hszr)).mono ?_
      rintro e w3 ⟨rfl, h3, k3⟩
      have hF : Kept B b w w3 := (unhide hkp).trans k3
      have hB3 : Hid (Bld B b (l ++ v.text) w3) := by
        show Bld _ _ _ _
        rw [unhide HT]
        simpa only [List.append_assoc] using h3
      clear h3 k3
      go_wp2_with fail
      go_end0
      exact ⟨rfl, unhide hB3, hF⟩
end Go.Proofs.YtbfkcfhkccicoaaDoor
