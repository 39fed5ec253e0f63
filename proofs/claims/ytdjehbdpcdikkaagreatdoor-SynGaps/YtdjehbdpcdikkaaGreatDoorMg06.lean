/- Walks of the signs. Walks of a sign and of a token. -/
import Derived.Test.YtdjehbdpcdikkaaGreatDoorMg04
import Derived.Deep.MidRow
import Derived.Test.YtdjehbdpcdikkaaGreatDoorMg05
namespace Go.Proofs.YtdjehbdpcdikkaaGreatDoor
open Go.RowKit

/-- A text as a string. -/
abbrev str (l : Txt) : Value := .string ⟨l.toArray⟩
def sgs : List Txt := twos ++ ones.map fun c => [c]
/-- The two tables of signs lie there. -/
def SignsAt (w : World) : Prop := (∀ (i : Nat) (t : Txt), hds[i]? = some t → w.cell? ⟨0, i, none⟩ = some (str t)) ∧ (∀ (i : Nat) (t : Txt), sgs[i]? = some t → w.cell? ⟨1, i, none⟩ = some (str t))
theorem SignsAt.later {w w' : World} (h : SignsAt w) (hb : Below w.heap.size w w') : SignsAt w' :=
  ⟨fun i t ht => (hb.cell (World.block_lt_of_cell? w _ (h.1 i t ht))).trans (h.1 i t ht), fun i t ht => (hb.cell (World.block_lt_of_cell? w _ (h.2 i t ht))).trans (h.2 i t ht)⟩

theorem any_lt {α : Type} {l : List α} {p : α → Bool} (d : α) (h : ∀ j, j < l.length → p (l.getD j d) = false) : l.any p = false := by
  rw [List.any_eq_false]
  intro x hx
  obtain ⟨j, hj, rfl⟩ := List.mem_iff_getElem.1 hx
  have := h j hj
  rw [List.getD_eq_getElem?_getD, List.getElem?_eq_getElem hj] at this
  simpa using this
theorem any_at {α : Type} {l : List α} {p : α → Bool} (d : α) {j : Nat} (hj : j < l.length) (h : p (l.getD j d) = true) : l.any p = true := by
  rw [List.any_eq_true]
  refine ⟨l[j], List.getElem_mem hj, ?_⟩
  rw [List.getD_eq_getElem?_getD, List.getElem?_eq_getElem hj] at h
  simpa using h
theorem hd_hit {l : Txt} {k : Nat} (hk : k < 4) (hp : pre (hds.getD k []) l = true) (hn : noW (l.drop 5) = true) : sgLen l = 5 := by
  unfold sgLen isHd
  rw [any_at (p := fun h => pre h l) [] (show k < hds.length from hk) hp, hn]; rfl
theorem hd_none {l : Txt} (h : ∀ j, j < 4 → (pre (hds.getD j []) l && noW (l.drop 5)) = false) : isHd l = false := by
  unfold isHd
  cases hn : noW (l.drop 5) with
  | false => rw [Bool.and_false]
  | true =>
    rw [any_lt (p := fun h => pre h l) []]; · rfl
    intro j hj
    have := h j hj
    rwa [hn, Bool.and_true] at this
theorem sgs_two {j : Nat} (h : j < 5) : sgs.getD j [] = twos.getD j [] ∧ (sgs.getD j []).length = 2 := by
  rcases (by omega : j = 0 ∨ j = 1 ∨ j = 2 ∨ j = 3 ∨ j = 4) with rfl | rfl | rfl | rfl | rfl <;> exact ⟨rfl, rfl⟩
theorem sgs_one {j : Nat} (h : j < 18) : sgs.getD (5 + j) [] = [ones.getD j 0] := by
  rcases (by omega : j = 0 ∨ j = 1 ∨ j = 2 ∨ j = 3 ∨ j = 4 ∨ j = 5 ∨ j = 6 ∨ j = 7 ∨ j = 8 ∨ j = 9 ∨ j = 10 ∨ j = 11 ∨ j = 12 ∨ j = 13 ∨ j = 14 ∨ j = 15 ∨ j = 16 ∨ j = 17) with rfl | rfl | rfl | rfl | rfl | rfl | rfl | rfl | rfl | rfl | rfl | rfl | rfl | rfl | rfl | rfl | rfl | rfl <;> rfl
theorem twos_none {l : Txt} {k : Nat} (hk : 5 ≤ k) (h : ∀ j, j < k → pre (sgs.getD j []) l = false) : twos.any (fun h => pre h l) = false :=
  any_lt [] fun j hj => by
    have hj5 : j < 5 := hj
    have := h j (by omega)
    rwa [(sgs_two hj5).1] at this
theorem sg_hit {l : Txt} {k : Nat} (hk : k < 23) (h0 : isHd l = false) (h : ∀ j, j < k → pre (sgs.getD j []) l = false) (hp : pre (sgs.getD k []) l = true) : sgLen l = (sgs.getD k []).length := by
  unfold sgLen
  rw [h0]
  by_cases h5 : k < 5
  · rw [any_at (l := twos) (p := fun h => pre h l) [] (show k < twos.length from h5) (by rw [← (sgs_two h5).1]; exact hp), (sgs_two h5).2]; rfl
  · rw [twos_none (by omega) h]
    obtain ⟨j, rfl⟩ : ∃ j, k = 5 + j := ⟨k - 5, by omega⟩
    rw [sgs_one (by omega)] at hp ⊢
    rw [any_at (l := ones) (p := fun c => pre [c] l) 0 (show j < ones.length by show j < 18; omega) hp]; rfl
theorem sg_none {l : Txt} (h0 : isHd l = false) (h : ∀ j, j < 23 → pre (sgs.getD j []) l = false) : sgLen l = 0 := by
  unfold sgLen
  rw [h0, twos_none (k := 23) (by omega) h, any_lt (l := ones) (p := fun c => pre [c] l) 0]
  · rfl
  · intro j hj
    have hj : j < 18 := hj
    have := h (5 + j) (by omega)
    rwa [sgs_one hj] at this

theorem noW_ext {u : ByteArray} : noW u.data.toList = if h : 0 < u.size then !inW (u[0].toNat : Int) else true := by
  by_cases h : 0 < u.size
  · rw [dif_pos h, data_cons h]; rfl
  · rw [dif_neg h, empty_of h]; rfl

abbrev hdA : Value := .agg #[str [46, 100, 101, 99, 108], str [46, 116, 121, 112, 101], str [46, 99, 111, 109, 112], str [46, 105, 110, 105, 116]]
theorem hdA_at {k : Nat} (h : k < 4) (w : World) : (Instr.index 194 hdA (.int .i64 (k : Int))).run Tryz.prog w = .ok (str (hds.getD k [])) w := by
  rcases (by omega : k = 0 ∨ k = 1 ∨ k = 2 ∨ k = 3) with rfl | rfl | rfl | rfl <;> kernel_rfl
theorem hd_len {k : Nat} (h : k < 4) : (hds.getD k []).length = 5 := by
  rcases (by omega : k = 0 ∨ k = 1 ∨ k = 2 ∨ k = 3) with rfl | rfl | rfl | rfl <;> rfl

abbrev sgA : Value := .agg #[str [58, 45], str [60, 58], str [60, 61], str [62, 61], str [33, 61], str [40], str [41], str [123], str [125], str [44], str [46], str [58], str [124], str [33], str [61], str [60], str [62], str [43], str [45], str [42], str [47], str [37], str [36]]
set_option maxRecDepth 100000 in
theorem sgA_at {k : Nat} (h : k < 23) (w : World) : (Instr.index 197 sgA (.int .i64 (k : Int))).run Tryz.prog w = .ok (str (sgs.getD k [])) w := by
  rcases (by omega : k = 0 ∨ k = 1 ∨ k = 2 ∨ k = 3 ∨ k = 4 ∨ k = 5 ∨ k = 6 ∨ k = 7 ∨ k = 8 ∨ k = 9 ∨ k = 10 ∨ k = 11 ∨ k = 12 ∨ k = 13 ∨ k = 14 ∨ k = 15 ∨ k = 16 ∨ k = 17 ∨ k = 18 ∨ k = 19 ∨ k = 20 ∨ k = 21 ∨ k = 22) with rfl | rfl | rfl | rfl | rfl | rfl | rfl | rfl | rfl | rfl | rfl | rfl | rfl | rfl | rfl | rfl | rfl | rfl | rfl | rfl | rfl | rfl | rfl <;> kernel_rfl

def hdLoad (x : Value) : Sem Value := Instr.loadAt 194 x
theorem loadAt_hd (x : Value) : Instr.loadAt 194 x = hdLoad x := rfl
def sgLoad (x : Value) : Sem Value := Instr.loadAt 197 x
theorem loadAt_sg (x : Value) : Instr.loadAt 197 x = sgLoad x := rfl
theorem size_hd : (Tryz.prog.info? 194).map (·.size) = some 4 := by kernel_rfl
theorem size_sg : (Tryz.prog.info? 197).map (·.size) = some 23 := by kernel_rfl
theorem hd_load {w : World} (h : SignsAt w) : (hdLoad (.pointer (some ⟨0, 0, none⟩))).run Tryz.prog w = .ok hdA w := by
  refine run_loadAt_mid w 0 0 194 (hds.map str) _ (fun q v hq => ?_) Tryz.underlying194 rfl size_hd
  rw [List.getElem?_map, Option.map_eq_some_iff] at hq
  obtain ⟨t, ht, rfl⟩ := hq
  rw [Nat.zero_add]
  exact h.1 q t ht
theorem sg_load {w : World} (h : SignsAt w) : (sgLoad (.pointer (some ⟨1, 0, none⟩))).run Tryz.prog w = .ok sgA w := by
  refine run_loadAt_mid w 1 0 197 (sgs.map str) _ (fun q v hq => ?_) Tryz.underlying197 rfl size_sg
  rw [List.getElem?_map, Option.map_eq_some_iff] at hq
  obtain ⟨t, ht, rfl⟩ := hq
  rw [Nat.zero_add]
  exact h.2 q t ht
attribute [local go_sem ↓] loadAt_hd loadAt_sg

set_option maxRecDepth 100000 in
set_option maxHeartbeats 4000000 in
theorem signLength_any (s : ByteArray) (w : World) (h : SignsAt w) :
    Calls Tryz.prog 131 #[.string s] w fun e w' => e = .returned (.int .i64 (sgLen s.data.toList : Int)) ∧ w' = w := by
  have hld := hd_load h
  have HLS := hide (sg_load h)
  have HIX := hide (fun (k : Nat) (hk : k < 4) => hdA_at hk)
  have HIS := hide (fun (k : Nat) (hk : k < 23) => sgA_at hk)
  obtain ⟨A, hA⟩ : ∃ A, hdA = A := ⟨_, rfl⟩
  obtain ⟨S, hS⟩ : ∃ S, sgA = S := ⟨_, rfl⟩
  rw [hA] at hld HIX
  rw [hS] at HLS HIS
  clear h hA hS
  go_enter Tryz.func131, Tryz.ntmps131
  go_wp2
  clear hld
  go_loop [10] (fun i => ∃ k : Nat, i = .int .i64 (k : Int) ∧ k ≤ 4 ∧ Hid (∀ j, j < k → (pre (hds.getD j []) s.data.toList && noW (s.data.toList.drop 5)) = false)) (fun i => 4 - (intOf i).toNat)
  case atStart => exact ⟨0, rfl, by omega, hide fun j hj => absurd hj (Nat.not_lt_zero j)⟩
  case round =>
    obtain ⟨k, rfl, hk, HH⟩ := hrel
    by_cases hlt : k < 4
    · have hidx := unhide HIX k hlt
      obtain ⟨p, hp⟩ : ∃ p : ByteArray, (⟨(hds.getD k []).toArray⟩ : ByteArray) = p := ⟨_, rfl⟩
      have hpl : p.data.toList = hds.getD k [] := by rw [← hp]
      have hps : p.size = 5 := by rw [size_len, hpl, hd_len hlt]
      unfold str at hidx
      rw [hp] at hidx
      have HPL := hide hpl
      clear hp hpl
      cases hpre : pre (hds.getD k []) s.data.toList with
      | false =>
        have HC := hide (show Lib.hasPrefix s.data.toList p.data.toList = false by rw [unhide HPL]; exact hpre)
        have HN := hide (show ∀ j, j < k + 1 → (pre (hds.getD j []) s.data.toList && noW (s.data.toList.drop 5)) = false from fun j hj => by
          by_cases hjk : j < k
          · exact unhide HH j hjk
          · rw [show j = k by omega, hpre]; rfl)
        clear hpre
        go_wp2_with (go_at_call 149; refine (Tryz.strings_CutPrefix s p _).mono ?_; rintro e w' ⟨rfl, rfl⟩; rw [unhide HC])
        go_round
        case rel => exact ⟨k + 1, by go_num, by omega, HN⟩
        case measure => simp [intOf]; omega
      | true =>
        have HC := hide (show Lib.hasPrefix s.data.toList p.data.toList = true by rw [unhide HPL]; exact hpre)
        obtain ⟨u, hu⟩ : ∃ u : ByteArray, (⟨(Lib.trimPrefix s.data.toList p.data.toList).toArray⟩ : ByteArray) = u := ⟨_, rfl⟩
        have hul : u.data.toList = s.data.toList.drop 5 := by
          rw [← hu]
          show (Lib.trimPrefix s.data.toList p.data.toList) = _
          unfold Lib.trimPrefix
          rw [unhide HC, if_pos rfl, ← size_len p, hps]
        have HU := hide hu
        have hno := noW_ext (u := u)
        rw [hul] at hno
        clear hu
        by_cases h0 : 0 < u.size
        · rw [dif_pos h0] at hno
          have hne : u.toList.isEmpty = false := by rw [Lib.toList_data, data_cons h0]; rfl
          cases hw : inW (u[0].toNat : Int) with
          | true =>
            have HN := hide (show ∀ j, j < k + 1 → (pre (hds.getD j []) s.data.toList && noW (s.data.toList.drop 5)) = false from fun j hj => by
              by_cases hjk : j < k
              · exact unhide HH j hjk
              · rw [hno, hw]; simp)
            clear hno hul hpre
            go_wp2_with (first
              | (go_at_call 149; refine (Tryz.strings_CutPrefix s p _).mono ?_; rintro e w' ⟨rfl, rfl⟩; rw [unhide HC, unhide HU])
              | (go_at_call 128; refine (inWord_any _ _).mono ?_; rintro e w' ⟨rfl, rfl⟩; rw [hw]))
            go_round
            case rel => exact ⟨k + 1, by go_num, by omega, HN⟩
            case measure => simp [intOf]; omega
          | false =>
            have H := hide (hd_hit hlt hpre (by rw [hno, hw]; rfl))
            clear hno hul hpre
            go_wp2_with (first
              | (go_at_call 149; refine (Tryz.strings_CutPrefix s p _).mono ?_; rintro e w' ⟨rfl, rfl⟩; rw [unhide HC, unhide HU])
              | (go_at_call 128; refine (inWord_any _ _).mono ?_; rintro e w' ⟨rfl, rfl⟩; rw [hw]))
            go_ret
            exact ⟨ret_int (by rw [unhide H]; omega), rfl⟩
        · rw [dif_neg h0] at hno
          have H := hide (hd_hit hlt hpre hno)
          have he := empty_of h0
          subst he
          clear hno hul hpre
          go_wp2_with (go_at_call 149; refine (Tryz.strings_CutPrefix s p _).mono ?_; rintro e w' ⟨rfl, rfl⟩; rw [unhide HC, unhide HU])
          go_ret
          exact ⟨ret_int (by rw [unhide H]; omega), rfl⟩
    · have e4 : k = 4 := by omega
      subst e4
      have HD := hide (hd_none (unhide HH))
      clear HH
      have hls := unhide HLS
      go_wp2
      clear hls
      go_loop [34] (fun i => ∃ k : Nat, i = .int .i64 (k : Int) ∧ k ≤ 23 ∧ Hid (∀ j, j < k → pre (sgs.getD j []) s.data.toList = false)) (fun i => 23 - (intOf i).toNat)
      case atStart => exact ⟨0, rfl, by omega, hide fun j hj => absurd hj (Nat.not_lt_zero j)⟩
      case round =>
        obtain ⟨k, rfl, hk, HH⟩ := hrel
        by_cases hlt : k < 23
        · have hidx := unhide HIS k hlt
          obtain ⟨p, hp⟩ : ∃ p : ByteArray, (⟨(sgs.getD k []).toArray⟩ : ByteArray) = p := ⟨_, rfl⟩
          have hpl : p.data.toList = sgs.getD k [] := by rw [← hp]
          unfold str at hidx
          rw [hp] at hidx
          have HPL := hide hpl
          clear hp hpl
          cases hpre : pre (sgs.getD k []) s.data.toList with
          | false =>
            have HC := hide (show Lib.hasPrefix s.data.toList p.data.toList = false by rw [unhide HPL]; exact hpre)
            have HN := hide (show ∀ j, j < k + 1 → pre (sgs.getD j []) s.data.toList = false from fun j hj => by
              by_cases hjk : j < k
              · exact unhide HH j hjk
              · rw [show j = k by omega, hpre])
            clear hpre
            go_wp2_with (go_at_call 98; refine (Tryz.strings_HasPrefix s p _).mono ?_; rintro e w' ⟨rfl, rfl⟩; rw [unhide HC])
            go_round
            case rel => exact ⟨k + 1, by go_num, by omega, HN⟩
            case measure => simp [intOf]; omega
          | true =>
            have HC := hide (show Lib.hasPrefix s.data.toList p.data.toList = true by rw [unhide HPL]; exact hpre)
            have H := hide (show sgLen s.data.toList = p.size by rw [sg_hit hlt (unhide HD) (unhide HH) hpre, size_len, unhide HPL])
            clear hpre
            go_wp2_with (go_at_call 98; refine (Tryz.strings_HasPrefix s p _).mono ?_; rintro e w' ⟨rfl, rfl⟩; rw [unhide HC])
            go_ret
            exact ⟨ret_int (by rw [unhide H]), rfl⟩
        · have e23 : k = 23 := by omega
          subst e23
          have H := hide (sg_none (unhide HD) (unhide HH))
          go_wp2
          go_ret
          exact ⟨ret_int (by rw [unhide H]; rfl), rfl⟩
end Go.Proofs.YtdjehbdpcdikkaaGreatDoor

namespace Go.Proofs.YtdjehbdpcdikkaaGreatDoor
open Go.RowKit

set_option maxRecDepth 100000 in
set_option maxHeartbeats 2000000 in
theorem signT_any (s : ByteArray) (k : Nat) (hk : k ≤ s.size) (hs : s.size ≤ 65536) (w : World) (hsg : SignsAt w) :
    Calls Tryz.prog 106 #[.string s, .int .i64 (k : Int)] w fun e w' => e = .returned (resT k (sgRes (s.data.toList.drop k))).val ∧ Below w.heap.size w w' := by
  have hb := two_made w
  have HSG := hide (hsg.later hb)
  clear hsg
  have hle := sg_le (s.data.toList.drop k)
  rw [len_drop] at hle
  obtain ⟨n, hn⟩ : ∃ n, sgLen (s.data.toList.drop k) = n := ⟨_, rfl⟩
  have hrun0 := run_tail s k (k : Int) rfl hk
  obtain ⟨r, hr⟩ : ∃ r, s.extract k s.size = r := ⟨_, rfl⟩
  have hrl : r.data.toList = s.data.toList.drop k := by rw [← hr]; exact ext_drop s k
  rw [hr] at hrun0
  have HL := hide (show Calls Tryz.prog 131 #[.string r] ((w.alloc tokZ).alloc fltZ) fun e w' => e = .returned (.int .i64 (n : Int)) ∧ w' = (w.alloc tokZ).alloc fltZ by
    have := signLength_any r _ (unhide HSG); rw [hrl, hn] at this; exact this)
  rw [hn] at hle
  clear hr hrl HSG
  by_cases h0 : n = 0
  · have H := hide (show resT k (sgRes (s.data.toList.drop k)) = ⟨0, ⟨#[]⟩, 0, 0, 0, 7, (k : Int)⟩ by unfold sgRes; rw [hn, if_pos h0]; rfl)
    clear hn
    subst h0
    go_enter Tryz.func106, Tryz.ntmps106
    go_wp2_with fail
    refine (unhide HL).mono ?_
    rintro e w1 ⟨rfl, rfl⟩
    go_wp2_with fail
    refine (wrong_any _ _ _).mono ?_
    rintro e w2 ⟨rfl, b2⟩
    have bx := boxes_later (w := w) (w2 := w2) (by simpa using b2)
    have bw : Below w.heap.size w w2 := hb.trans (b2.mono (by simp; omega))
    obtain ⟨x0, x1, x2, x3, y0, y1, fx, fy⟩ := bx
    clear b2 hb
    go_wp2_with fail
    refine bodyPost_ret (v := TV.val ⟨0, ⟨#[]⟩, 0, 0, 0, 7, (k : Int)⟩) (by simp [results, Tryz.results106, go_sem, x0, x1, x2, x3, y0, y1]) rfl ?_
    exact ⟨ret_tv (unhide H).symm, six_below bw (Nat.le_refl _) (Nat.le_succ _) _ _ _ _ _ _⟩
  · have hrun := run_piece s k n (k : Int) ((k : Int) + (n : Int)) rfl (by omega) (by omega)
    obtain ⟨u, hu⟩ : ∃ u, s.extract k (k + n) = u := ⟨_, rfl⟩
    have hul : u.data.toList = (s.data.toList.drop k).take n := by rw [← hu]; exact ext_piece s k n
    have husz : u.size ≤ 140737488355328 := by rw [size_len, hul, List.length_take]; omega
    rw [hu] at hrun
    have H := hide (show resT k (sgRes (s.data.toList.drop k)) = ⟨4, u, 0, (k : Int), (k : Int) + (n : Int), 0, 0⟩ by
      unfold sgRes; rw [hn, if_neg h0, ← hul]; exact resT_tok k 4 u 0 n)
    have h0' : ((n : Int) == 0) = false := by rw [beq_eq_false_iff_ne]; omega
    clear hn hu hul
    go_enter Tryz.func106, Tryz.ntmps106
    go_wp2_with fail
    refine (unhide HL).mono ?_
    rintro e w1 ⟨rfl, rfl⟩
    go_wp2_with fail
    refine (clone_any u _ husz).mono ?_
    rintro e w2 ⟨rfl, b2⟩
    have bx := boxes_later (w := w) (w2 := w2) (by simpa using b2)
    have bw : Below w.heap.size w w2 := hb.trans (b2.mono (by simp; omega))
    obtain ⟨x0, x1, x2, x3, y0, y1, fx, fy⟩ := bx
    clear b2 hb
    go_wp2_with fail
    refine bodyPost_ret (v := TV.val ⟨4, u, 0, (k : Int), (k : Int) + (n : Int), 0, 0⟩) (by simp [results, Tryz.results106, go_sem, x0, x1, x2, x3, y0, y1]) rfl ?_
    exact ⟨ret_tv (unhide H).symm, six_below bw (Nat.le_refl _) (Nat.le_succ _) _ _ _ _ _ _⟩

/-- What of the world the walks lean on. -/
structure Env (w : World) : Prop where
  sg : SignsAt w
  ml : ∃ m : Int, w.cell? ⟨2, 0, none⟩ = some (.int .i64 m)
  er : ∃ (t : TypeId) (p : Value), w.var? Tryz.prog "strconv.ErrRange" = some #[.iface t p]
theorem Env.later {w w' : World} (h : Env w) (hb : Below w.heap.size w w') : Env w' := by
  obtain ⟨m, hm⟩ := h.ml
  obtain ⟨t, p, hp⟩ := h.er
  exact ⟨h.sg.later hb, ⟨m, (hb.cell (World.block_lt_of_cell? w _ hm)).trans hm⟩, ⟨t, p, var_below hp hb⟩⟩

set_option maxRecDepth 100000 in
set_option maxHeartbeats 2000000 in
theorem token_any (s : ByteArray) (k : Nat) (hk : k < s.size) (hs : s.size ≤ 65536) (w : World) (hE : Env w) :
    Calls Tryz.prog 73 #[.string s, .int .i64 (k : Int)] w fun e w' => e = .returned (resT k (tokAt (s.data.toList.drop k))).val ∧ Below w.heap.size w w' := by
  have hb := two_made w
  have hE1 := hE.later hb
  have HT := hide (show tokAt (s.data.toList.drop k) = if isL (bv s[k]) then nmRes (s.data.toList.drop k) else if isD (bv s[k]) then dgRes (s.data.toList.drop k) else if s[k] = 34 then txRes (s.data.toList.drop (k + 1)) else sgRes (s.data.toList.drop k) by
    rw [drop_at s k hk]; exact tok_cons _ _)
  have HE := hide hE1
  clear hE hE1
  cases hl : isL (s[k].toNat : Int) with
  | true =>
    have H := hide (show tokAt (s.data.toList.drop k) = nmRes (s.data.toList.drop k) by rw [unhide HT, if_pos (show isL (bv s[k]) = true from hl)])
    obtain ⟨T, hT⟩ : ∃ T, resT k (nmRes (s.data.toList.drop k)) = T := ⟨_, rfl⟩
    rw [unhide H, hT]
    have HC := hide (show ∀ w, Calls Tryz.prog 102 #[.string s, .int .i64 (k : Int)] w fun e w' => e = .returned T.val ∧ Below w.heap.size w w' by
      intro w; rw [← hT]; exact nameT_any s k (by omega) hs w)
    clear H hT HT
    go_enter Tryz.func73, Tryz.ntmps73
    go_wp2_with fail
    refine (begins_any _ _).mono ?_
    rintro e w1 ⟨rfl, rfl⟩
    rw [hl]
    go_wp2_with fail
    refine (unhide HC _).mono ?_
    rintro e w2 ⟨rfl, b2⟩
    have bx := boxes_later (w := w) (w2 := w2) (by simpa using b2)
    have bw : Below w.heap.size w w2 := hb.trans (b2.mono (by simp; omega))
    obtain ⟨x0, x1, x2, x3, y0, y1, fx, fy⟩ := bx
    clear b2 hb
    go_wp2_with fail
    refine bodyPost_ret (v := T.val) (by simp [results, Tryz.results73, go_sem, x0, x1, x2, x3, y0, y1]) rfl ?_
    exact ⟨rfl, six_below bw (Nat.le_refl _) (Nat.le_succ _) _ _ _ _ _ _⟩
  | false =>
    cases hd : isD (s[k].toNat : Int) with
    | true =>
      have H := hide (show tokAt (s.data.toList.drop k) = dgRes (s.data.toList.drop k) by rw [unhide HT, if_neg (by rw [show isL (bv s[k]) = false from hl]; simp), if_pos (show isD (bv s[k]) = true from hd)])
      obtain ⟨T, hT⟩ : ∃ T, resT k (dgRes (s.data.toList.drop k)) = T := ⟨_, rfl⟩
      rw [unhide H, hT]
      obtain ⟨t1, p1, hv⟩ := (unhide HE).er
      have HC := hide (show Calls Tryz.prog 104 #[.string s, .int .i64 (k : Int)] ((w.alloc tokZ).alloc fltZ) fun e w' => e = .returned T.val ∧ Below ((w.alloc tokZ).alloc fltZ).heap.size ((w.alloc tokZ).alloc fltZ) w' by
        rw [← hT]; exact numberT_any s k hk hd hs _ hv)
      clear H hT HT hv
      go_enter Tryz.func73, Tryz.ntmps73
      go_wp2_with fail
      refine (begins_any _ _).mono ?_
      rintro e w1 ⟨rfl, rfl⟩
      rw [hl]
      go_wp2_with fail
      refine (isDigit_any _ _).mono ?_
      rintro e w1 ⟨rfl, rfl⟩
      rw [hd]
      go_wp2_with fail
      refine (unhide HC).mono ?_
      rintro e w2 ⟨rfl, b2⟩
      have bx := boxes_later (w := w) (w2 := w2) (by simpa using b2)
      have bw : Below w.heap.size w w2 := hb.trans (b2.mono (by simp; omega))
      obtain ⟨x0, x1, x2, x3, y0, y1, fx, fy⟩ := bx
      clear b2 hb
      go_wp2_with fail
      refine bodyPost_ret (v := T.val) (by simp [results, Tryz.results73, go_sem, x0, x1, x2, x3, y0, y1]) rfl ?_
      exact ⟨rfl, six_below bw (Nat.le_refl _) (Nat.le_succ _) _ _ _ _ _ _⟩
    | false =>
      have H0 := hide (show tokAt (s.data.toList.drop k) = if s[k] = 34 then txRes (s.data.toList.drop (k + 1)) else sgRes (s.data.toList.drop k) by
        rw [unhide HT, if_neg (by rw [show isL (bv s[k]) = false from hl]; simp), if_neg (by rw [show isD (bv s[k]) = false from hd]; simp)])
      cases e1 : ((s[k].toNat : Int) == 34) with
      | true =>
        have H := hide (show tokAt (s.data.toList.drop k) = txRes (s.data.toList.drop (k + 1)) by rw [unhide H0, if_pos (show s[k] = 34 from (bv_eq (k := 34) (by omega)).1 (beq_iff_eq.1 e1))])
        obtain ⟨T, hT⟩ : ∃ T, resT k (txRes (s.data.toList.drop (k + 1))) = T := ⟨_, rfl⟩
        rw [unhide H, hT]
        have HC := hide (show ∀ w, Calls Tryz.prog 105 #[.string s, .int .i64 (k : Int)] w fun e w' => e = .returned T.val ∧ Below w.heap.size w w' by
          intro w; rw [← hT]; exact textT_any s k hk hs w)
        clear H hT HT H0
        go_enter Tryz.func73, Tryz.ntmps73
        go_wp2_with fail
        refine (begins_any _ _).mono ?_
        rintro e w1 ⟨rfl, rfl⟩
        rw [hl]
        go_wp2_with fail
        refine (isDigit_any _ _).mono ?_
        rintro e w1 ⟨rfl, rfl⟩
        rw [hd]
        go_wp2_with fail
        refine (unhide HC _).mono ?_
        rintro e w2 ⟨rfl, b2⟩
        have bx := boxes_later (w := w) (w2 := w2) (by simpa using b2)
        have bw : Below w.heap.size w w2 := hb.trans (b2.mono (by simp; omega))
        obtain ⟨x0, x1, x2, x3, y0, y1, fx, fy⟩ := bx
        clear b2 hb
        go_wp2_with fail
        refine bodyPost_ret (v := T.val) (by simp [results, Tryz.results73, go_sem, x0, x1, x2, x3, y0, y1]) rfl ?_
        exact ⟨rfl, six_below bw (Nat.le_refl _) (Nat.le_succ _) _ _ _ _ _ _⟩
      | false =>
        have H := hide (show tokAt (s.data.toList.drop k) = sgRes (s.data.toList.drop k) by rw [unhide H0, if_neg (fun e => beq_eq_false_iff_ne.1 e1 (by rw [e]; rfl))])
        obtain ⟨T, hT⟩ : ∃ T, resT k (sgRes (s.data.toList.drop k)) = T := ⟨_, rfl⟩
        rw [unhide H, hT]
        have HC := hide (show Calls Tryz.prog 106 #[.string s, .int .i64 (k : Int)] ((w.alloc tokZ).alloc fltZ) fun e w' => e = .returned T.val ∧ Below ((w.alloc tokZ).alloc fltZ).heap.size ((w.alloc tokZ).alloc fltZ) w' by
          rw [← hT]; exact signT_any s k (by omega) hs _ (unhide HE).sg)
        clear H hT HT H0
        go_enter Tryz.func73, Tryz.ntmps73
        go_wp2_with fail
        refine (begins_any _ _).mono ?_
        rintro e w1 ⟨rfl, rfl⟩
        rw [hl]
        go_wp2_with fail
        refine (isDigit_any _ _).mono ?_
        rintro e w1 ⟨rfl, rfl⟩
        rw [hd]
        go_wp2_with fail
        refine (unhide HC).mono ?_
        rintro e w2 ⟨rfl, b2⟩
        have bx := boxes_later (w := w) (w2 := w2) (by simpa using b2)
        have bw : Below w.heap.size w w2 := hb.trans (b2.mono (by simp; omega))
        obtain ⟨x0, x1, x2, x3, y0, y1, fx, fy⟩ := bx
        clear b2 hb
        go_wp2_with fail
        refine bodyPost_ret (v := T.val) (by simp [results, Tryz.results73, go_sem, x0, x1, x2, x3, y0, y1]) rfl ?_
        exact ⟨rfl, six_below bw (Nat.le_refl _) (Nat.le_succ _) _ _ _ _ _ _⟩
end Go.Proofs.YtdjehbdpcdikkaaGreatDoor
