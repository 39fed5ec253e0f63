/- Walks of the signs. Walks of a sign and of a token. Walk of Tokens. -/
import Derived.Test.YtccehgfecaamoaaGreatDoorQb03
import Derived.Deep.MidRow
set_option maxRecDepth 100000
set_option maxHeartbeats 32000000
namespace Go.Proofs.YtccehgfecaamoaaGreatDoor
section
open Go.RowKit
abbrev str (l : Txt) : Value := .string ⟨l.toArray⟩
def sgs : List Txt := twos ++ ones.map fun c => [c]
def SignsAt (w : World) : Prop := (∀ (i : Nat) (t : Txt), hds[i]? = some t → w.cell? ⟨0, i, none⟩ = some (str t)) ∧ (∀ (i : Nat) (t : Txt), sgs[i]? = some t → w.cell? ⟨1, i, none⟩ = some (str t))
theorem SignsAt.later {w w' : World} (h : SignsAt w) (hb : Below w.heap.size w w') : SignsAt w' :=
 ⟨fun i t ht => (hb.cell (World.block_lt_of_cell? w _ (h.1 i t ht))).trans (h.1 i t ht), fun i t ht => (hb.cell (World.block_lt_of_cell? w _ (h.2 i t ht))).trans (h.2 i t ht)⟩

theorem Qun {α : Type} {l : List α} {p : α → Bool} (d : α) (h : ∀ j, j < l.length → p (l.getD j d) = false) : l.any p = false := by
 rw [List.any_eq_false]
 intro x hx
 obtain ⟨j, hj, rfl⟩ := List.mem_iff_getElem.1 hx
 have := h j hj
 rw [List.getD_eq_getElem?_getD, List.getElem?_eq_getElem hj] at this
 simpa using this
theorem Qul {α : Type} {l : List α} {p : α → Bool} (d : α) {j : Nat} (hj : j < l.length) (h : p (l.getD j d) = true) : l.any p = true := by
 rw [List.any_eq_true]
 refine ⟨l[j], List.getElem_mem hj, ?_⟩
 rw [List.getD_eq_getElem?_getD, List.getElem?_eq_getElem hj] at h
 simpa using h
theorem Jcm {l : Txt} {k : Nat} (hk : k < 4) (hp : pre (hds.getD k []) l = true) (hn : noW (l.drop 5) = true) : sgLen l = 5 := by
 unfold sgLen isHd
 rw [Qul (p := fun h => pre h l) [] (show k < hds.length from hk) hp, hn]; rfl
theorem hd_none {l : Txt} (h : ∀ j, j < 4 → (pre (hds.getD j []) l && noW (l.drop 5)) = false) : isHd l = false := by
 unfold isHd
 cases hn : noW (l.drop 5) with
 | false => rw [Bool.and_false]
 | true =>
  rw [Qun (p := fun h => pre h l) []]; · rfl
  intro j hj
  have := h j hj
  rwa [hn, Bool.and_true] at this
theorem Qpj {j : Nat} (h : j < 5) : sgs.getD j [] = twos.getD j [] ∧ (sgs.getD j []).length = 2 := by
 rcases (by omega : j = 0 ∨ j = 1 ∨ j = 2 ∨ j = 3 ∨ j = 4) with rfl | rfl | rfl | rfl | rfl <;> exact ⟨rfl, rfl⟩
theorem Qyl {j : Nat} (h : j < 18) : sgs.getD (5 + j) [] = [ones.getD j 0] := by
 rcases (by omega : j = 0 ∨ j = 1 ∨ j = 2 ∨ j = 3 ∨ j = 4 ∨ j = 5 ∨ j = 6 ∨ j = 7 ∨ j = 8 ∨ j = 9 ∨ j = 10 ∨ j = 11 ∨ j = 12 ∨ j = 13 ∨ j = 14 ∨ j = 15 ∨ j = 16 ∨ j = 17) with rfl | rfl | rfl | rfl | rfl | rfl | rfl | rfl | rfl | rfl | rfl | rfl | rfl | rfl | rfl | rfl | rfl | rfl <;> rfl
theorem Qo {l : Txt} {k : Nat} (hk : 5 ≤ k) (h : ∀ j, j < k → pre (sgs.getD j []) l = false) : twos.any (fun h => pre h l) = false :=
 Qun [] fun j hj => by
  have hj5 : j < 5 := hj
  have := h j (by omega)
  rwa [(Qpj hj5).1] at this
theorem sg_hit {l : Txt} {k : Nat} (hk : k < 23) (h0 : isHd l = false) (h : ∀ j, j < k → pre (sgs.getD j []) l = false) (hp : pre (sgs.getD k []) l = true) : sgLen l = (sgs.getD k []).length := by
 unfold sgLen
 rw [h0]
 by_cases h5 : k < 5
 · rw [Qul (l := twos) (p := fun h => pre h l) [] (show k < twos.length from h5) (by rw [← (Qpj h5).1]; exact hp), (Qpj h5).2]; rfl
 rw [Qo (by omega) h]
 obtain ⟨j, rfl⟩ : ∃ j, k = 5 + j := ⟨k - 5, by omega⟩
 rw [Qyl (by omega)] at hp ⊢
 rw [Qul (l := ones) (p := fun c => pre [c] l) 0 (show j < ones.length by show j < 18; omega) hp]; rfl
theorem sg_none {l : Txt} (h0 : isHd l = false) (h : ∀ j, j < 23 → pre (sgs.getD j []) l = false) : sgLen l = 0 := by
 unfold sgLen
 rw [h0, Qo (k := 23) (by omega) h, Qun (l := ones) (p := fun c => pre [c] l) 0]
 · rfl
 intro j hj
 have hj : j < 18 := hj
 have := h (5 + j) (by omega)
 rwa [Qyl hj] at this

theorem noW_ext {u : ByteArray} : noW u.data.toList = if h : 0 < u.size then !inW (u[0].toNat : Int) else true := by
 by_cases h : 0 < u.size
 · rw [dif_pos h, Qmg h]; rfl
 · rw [dif_neg h, Qqn h]; rfl

abbrev hdA : Value := .agg #[str [46, 100, 101, 99, 108], str [46, 116, 121, 112, 101], str [46, 99, 111, 109, 112], str [46, 105, 110, 105, 116]]
theorem hdA_at {k : Nat} (h : k < 4) (w : World) : (Instr.index 174 hdA (.int .i64 (k : Int))).run Tryz.prog w = .ok (str (hds.getD k [])) w := by
 rcases (by omega : k = 0 ∨ k = 1 ∨ k = 2 ∨ k = 3) with rfl | rfl | rfl | rfl <;> kernel_rfl
theorem hd_len {k : Nat} (h : k < 4) : (hds.getD k []).length = 5 := by
 rcases (by omega : k = 0 ∨ k = 1 ∨ k = 2 ∨ k = 3) with rfl | rfl | rfl | rfl <;> rfl

abbrev sgA : Value := .agg #[str [58, 45], str [60, 58], str [60, 61], str [62, 61], str [33, 61], str [40], str [41], str [123], str [125], str [44], str [46], str [58], str [124], str [33], str [61], str [60], str [62], str [43], str [45], str [42], str [47], str [37], str [36]]
theorem sgA_at {k : Nat} (h : k < 23) (w : World) : (Instr.index 177 sgA (.int .i64 (k : Int))).run Tryz.prog w = .ok (str (sgs.getD k [])) w := by
 rcases (by omega : k = 0 ∨ k = 1 ∨ k = 2 ∨ k = 3 ∨ k = 4 ∨ k = 5 ∨ k = 6 ∨ k = 7 ∨ k = 8 ∨ k = 9 ∨ k = 10 ∨ k = 11 ∨ k = 12 ∨ k = 13 ∨ k = 14 ∨ k = 15 ∨ k = 16 ∨ k = 17 ∨ k = 18 ∨ k = 19 ∨ k = 20 ∨ k = 21 ∨ k = 22) with rfl | rfl | rfl | rfl | rfl | rfl | rfl | rfl | rfl | rfl | rfl | rfl | rfl | rfl | rfl | rfl | rfl | rfl | rfl | rfl | rfl | rfl | rfl <;> kernel_rfl

def hdLoad (x : Value) : Sem Value := Instr.loadAt 174 x
theorem Qwx (x : Value) : Instr.loadAt 174 x = hdLoad x := rfl
def sgLoad (x : Value) : Sem Value := Instr.loadAt 177 x
theorem Qxd (x : Value) : Instr.loadAt 177 x = sgLoad x := rfl
theorem size_hd : (Tryz.prog.info? 174).map (·.size) = some 4 := by kernel_rfl
theorem size_sg : (Tryz.prog.info? 177).map (·.size) = some 23 := by kernel_rfl
theorem hd_load {w : World} (h : SignsAt w) : (hdLoad (.pointer (some ⟨0, 0, none⟩))).run Tryz.prog w = .ok hdA w := by
 refine run_loadAt_mid w 0 0 174 (hds.map str) _ (fun q v hq => ?_) Tryz.underlying174 rfl size_hd
 rw [List.getElem?_map, Option.map_eq_some_iff] at hq
 obtain ⟨t, ht, rfl⟩ := hq
 rw [Nat.zero_add]
 exact h.1 q t ht
theorem sg_load {w : World} (h : SignsAt w) : (sgLoad (.pointer (some ⟨1, 0, none⟩))).run Tryz.prog w = .ok sgA w := by
 refine run_loadAt_mid w 1 0 177 (sgs.map str) _ (fun q v hq => ?_) Tryz.underlying177 rfl size_sg
 rw [List.getElem?_map, Option.map_eq_some_iff] at hq
 obtain ⟨t, ht, rfl⟩ := hq
 rw [Nat.zero_add]
 exact h.2 q t ht
attribute [local go_sem ↓] Qwx Qxd

theorem Qjj (s : ByteArray) (w : World) (h : SignsAt w) :
  Calls Tryz.prog 90 #[.string s] w fun e w' => e = .returned (.int .i64 (sgLen s.data.toList : Int)) ∧ w' = w := by
 have hld := hd_load h
 have HLS := hide (sg_load h)
 have HIX := hide (fun (k : Nat) (hk : k < 4) => hdA_at hk)
 have HIS := hide (fun (k : Nat) (hk : k < 23) => sgA_at hk)
 obtain ⟨A, hA⟩ : ∃ A, hdA = A := ⟨_, rfl⟩
 obtain ⟨S, hS⟩ : ∃ S, sgA = S := ⟨_, rfl⟩
 rw [hA] at hld HIX
 rw [hS] at HLS HIS
 clear h hA hS
 go_enter Tryz.func90, Tryz.ntmps90
 go_wp2
 clear hld
 go_loop [10] (fun i => ∃ k : Nat, i = .int .i64 (k : Int) ∧ k ≤ 4 ∧ Hid (∀ j, j < k → (pre (hds.getD j []) s.data.toList && noW (s.data.toList.drop 5)) = false)) (fun i => 4 - (intOf i).toNat)
 case atStart => exact ⟨0, rfl, by omega, hide fun j hj => absurd hj (Nat.not_lt_zero j)⟩
 obtain ⟨k, rfl, hk, HH⟩ := hrel
 by_cases hlt : k < 4
 ·
  have hidx := Qa HIX k hlt
  obtain ⟨p, hp⟩ : ∃ p : ByteArray, (⟨(hds.getD k []).toArray⟩ : ByteArray) = p := ⟨_, rfl⟩
  have hpl : p.data.toList = hds.getD k [] := by rw [← hp]
  have hps : p.size = 5 := by rw [Qca, hpl, hd_len hlt]
  unfold str at hidx
  rw [hp] at hidx
  have HPL := hide hpl
  clear hp hpl
  cases hpre : pre (hds.getD k []) s.data.toList with
  | false =>
   have HC := hide (show Lib.hasPrefix s.data.toList p.data.toList = false by rw [Qa HPL]; exact hpre)
   have HN := hide (show ∀ j, j < k + 1 → (pre (hds.getD j []) s.data.toList && noW (s.data.toList.drop 5)) = false from fun j hj => by
    by_cases hjk : j < k
    · exact Qa HH j hjk
    · rw [show j = k by omega, hpre]; rfl)
   clear hpre
   go_wp2_with (go_at_call 109; refine (Tryz.strings_CutPrefix s p _).mono ?_; rintro e w' ⟨rfl, rfl⟩; rw [Qa HC])
   go_round
   case rel => exact ⟨k + 1, by go_num, by omega, HN⟩
   case measure => simp [intOf]; omega
  | true =>
   have HC := hide (show Lib.hasPrefix s.data.toList p.data.toList = true by rw [Qa HPL]; exact hpre)
   obtain ⟨u, hu⟩ : ∃ u : ByteArray, (⟨(Lib.trimPrefix s.data.toList p.data.toList).toArray⟩ : ByteArray) = u := ⟨_, rfl⟩
   have hul : u.data.toList = s.data.toList.drop 5 := by
    rw [← hu]
    show (Lib.trimPrefix s.data.toList p.data.toList) = _
    unfold Lib.trimPrefix
    rw [Qa HC, if_pos rfl, ← Qca p, hps]
   have HU := hide hu
   have hno := noW_ext (u := u)
   rw [hul] at hno
   clear hu
   by_cases h0 : 0 < u.size
   ·
    rw [dif_pos h0] at hno
    have hne : u.toList.isEmpty = false := by rw [Lib.toList_data, Qmg h0]; rfl
    cases hw : inW (u[0].toNat : Int) with
    | true =>
     have HN := hide (show ∀ j, j < k + 1 → (pre (hds.getD j []) s.data.toList && noW (s.data.toList.drop 5)) = false from fun j hj => by
      by_cases hjk : j < k
      · exact Qa HH j hjk
      · rw [hno, hw]; simp)
     clear hno hul hpre
     go_wp2_with (first
      | (go_at_call 109; refine (Tryz.strings_CutPrefix s p _).mono ?_; rintro e w' ⟨rfl, rfl⟩; rw [Qa HC, Qa HU])
      | (go_at_call 87; refine (Qba _ _).mono ?_; rintro e w' ⟨rfl, rfl⟩; rw [hw]))
     go_round
     case rel => exact ⟨k + 1, by go_num, by omega, HN⟩
     case measure => simp [intOf]; omega
    | false =>
     have H := hide (Jcm hlt hpre (by rw [hno, hw]; rfl))
     clear hno hul hpre
     go_wp2_with (first
      | (go_at_call 109; refine (Tryz.strings_CutPrefix s p _).mono ?_; rintro e w' ⟨rfl, rfl⟩; rw [Qa HC, Qa HU])
      | (go_at_call 87; refine (Qba _ _).mono ?_; rintro e w' ⟨rfl, rfl⟩; rw [hw]))
     go_ret
     exact ⟨Qce (by rw [Qa H]; omega), rfl⟩
   rw [dif_neg h0] at hno
   have H := hide (Jcm hlt hpre hno)
   have he := Qqn h0
   subst he
   clear hno hul hpre
   go_wp2_with (go_at_call 109; refine (Tryz.strings_CutPrefix s p _).mono ?_; rintro e w' ⟨rfl, rfl⟩; rw [Qa HC, Qa HU])
   go_ret
   exact ⟨Qce (by rw [Qa H]; omega), rfl⟩
 have e4 : k = 4 := by omega
 subst e4
 have HD := hide (hd_none (Qa HH))
 clear HH
 have hls := Qa HLS
 go_wp2
 clear hls
 go_loop [34] (fun i => ∃ k : Nat, i = .int .i64 (k : Int) ∧ k ≤ 23 ∧ Hid (∀ j, j < k → pre (sgs.getD j []) s.data.toList = false)) (fun i => 23 - (intOf i).toNat)
 case atStart => exact ⟨0, rfl, by omega, hide fun j hj => absurd hj (Nat.not_lt_zero j)⟩
 obtain ⟨k, rfl, hk, HH⟩ := hrel
 by_cases hlt : k < 23
 ·
  have hidx := Qa HIS k hlt
  obtain ⟨p, hp⟩ : ∃ p : ByteArray, (⟨(sgs.getD k []).toArray⟩ : ByteArray) = p := ⟨_, rfl⟩
  have hpl : p.data.toList = sgs.getD k [] := by rw [← hp]
  unfold str at hidx
  rw [hp] at hidx
  have HPL := hide hpl
  clear hp hpl
  cases hpre : pre (sgs.getD k []) s.data.toList with
  | false =>
   have HC := hide (show Lib.hasPrefix s.data.toList p.data.toList = false by rw [Qa HPL]; exact hpre)
   have HN := hide (show ∀ j, j < k + 1 → pre (sgs.getD j []) s.data.toList = false from fun j hj => by
    by_cases hjk : j < k
    · exact Qa HH j hjk
    · rw [show j = k by omega, hpre])
   clear hpre
   go_wp2_with (go_at_call 51; refine (Tryz.strings_HasPrefix s p _).mono ?_; rintro e w' ⟨rfl, rfl⟩; rw [Qa HC])
   go_round
   case rel => exact ⟨k + 1, by go_num, by omega, HN⟩
   case measure => simp [intOf]; omega
  | true =>
   have HC := hide (show Lib.hasPrefix s.data.toList p.data.toList = true by rw [Qa HPL]; exact hpre)
   have H := hide (show sgLen s.data.toList = p.size by rw [sg_hit hlt (Qa HD) (Qa HH) hpre, Qca, Qa HPL])
   clear hpre
   go_wp2_with (go_at_call 51; refine (Tryz.strings_HasPrefix s p _).mono ?_; rintro e w' ⟨rfl, rfl⟩; rw [Qa HC])
   go_ret
   exact ⟨Qce (by rw [Qa H]), rfl⟩
 have e23 : k = 23 := by omega
 subst e23
 have H := hide (sg_none (Qa HD) (Qa HH))
 go_wp2
 go_ret
 exact ⟨Qce (by rw [Qa H]; rfl), rfl⟩
end
section
open Go.RowKit
theorem Qyq (s : ByteArray) (k : Nat) (hk : k ≤ s.size) (hs : s.size ≤ 65536) (w : World) (hsg : SignsAt w) :
  Calls Tryz.prog 59 #[.string s, .int .i64 (k : Int)] w fun e w' => e = .returned (resT k (sgRes (s.data.toList.drop k))).val ∧ Below w.heap.size w w' := by
 have hb := Qfs w
 have HSG := hide (hsg.later hb)
 clear hsg
 have hle := sg_le (s.data.toList.drop k)
 rw [Qcn] at hle
 obtain ⟨n, hn⟩ : ∃ n, sgLen (s.data.toList.drop k) = n := ⟨_, rfl⟩
 have hrun0 := Qgh s k (k : Int) rfl hk
 obtain ⟨r, hr⟩ : ∃ r, s.extract k s.size = r := ⟨_, rfl⟩
 have hrl : r.data.toList = s.data.toList.drop k := by rw [← hr]; exact Qhm s k
 rw [hr] at hrun0
 have HL := hide (show Calls Tryz.prog 90 #[.string r] ((w.alloc tokZ).alloc fltZ) fun e w' => e = .returned (.int .i64 (n : Int)) ∧ w' = (w.alloc tokZ).alloc fltZ by
  have := Qjj r _ (Qa HSG); rw [hrl, hn] at this; exact this)
 rw [hn] at hle
 clear hr hrl HSG
 by_cases h0 : n = 0
 ·
  have H := hide (show resT k (sgRes (s.data.toList.drop k)) = ⟨0, ⟨#[]⟩, 0, 0, 0, 7, (k : Int)⟩ by unfold sgRes; rw [hn, if_pos h0]; rfl)
  clear hn
  subst h0
  go_enter Tryz.func59, Tryz.ntmps59
  go_wp2_with fail
  refine (Qa HL).mono ?_
  rintro e w1 ⟨rfl, rfl⟩
  go_wp2_with fail
  refine (Qcw _ _ _).mono ?_
  rintro e w2 ⟨rfl, b2⟩
  have bx := Qav (w := w) (w2 := w2) (by simpa using b2)
  have bw : Below w.heap.size w w2 := hb.trans (b2.mono (by simp; omega))
  obtain ⟨x0, x1, x2, x3, y0, y1, fx, fy⟩ := bx
  clear b2 hb
  go_wp2_with fail
  refine bodyPost_ret (v := TV.val ⟨0, ⟨#[]⟩, 0, 0, 0, 7, (k : Int)⟩) (by simp [results, Tryz.results59, go_sem, x0, x1, x2, x3, y0, y1]) rfl ?_
  exact ⟨Qdu (Qa H).symm, Qar bw (Nat.le_refl _) (Nat.le_succ _) _ _ _ _ _ _⟩
 have hrun := Qiv s k n (k : Int) ((k : Int) + (n : Int)) rfl (by omega) (by omega)
 obtain ⟨u, hu⟩ : ∃ u, s.extract k (k + n) = u := ⟨_, rfl⟩
 have hul : u.data.toList = (s.data.toList.drop k).take n := by rw [← hu]; exact Qif s k n
 have husz : u.size ≤ 140737488355328 := by rw [Qca, hul, List.length_take]; omega
 rw [hu] at hrun
 have H := hide (show resT k (sgRes (s.data.toList.drop k)) = ⟨4, u, 0, (k : Int), (k : Int) + (n : Int), 0, 0⟩ by
  unfold sgRes; rw [hn, if_neg h0, ← hul]; exact Qsa k 4 u 0 n)
 have h0' : ((n : Int) == 0) = false := by rw [beq_eq_false_iff_ne]; omega
 clear hn hu hul
 go_enter Tryz.func59, Tryz.ntmps59
 go_wp2_with fail
 refine (Qa HL).mono ?_
 rintro e w1 ⟨rfl, rfl⟩
 go_wp2_with fail
 refine (Qmf u _ husz).mono ?_
 rintro e w2 ⟨rfl, b2⟩
 have bx := Qav (w := w) (w2 := w2) (by simpa using b2)
 have bw : Below w.heap.size w w2 := hb.trans (b2.mono (by simp; omega))
 obtain ⟨x0, x1, x2, x3, y0, y1, fx, fy⟩ := bx
 clear b2 hb
 go_wp2_with fail
 refine bodyPost_ret (v := TV.val ⟨4, u, 0, (k : Int), (k : Int) + (n : Int), 0, 0⟩) (by simp [results, Tryz.results59, go_sem, x0, x1, x2, x3, y0, y1]) rfl ?_
 exact ⟨Qdu (Qa H).symm, Qar bw (Nat.le_refl _) (Nat.le_succ _) _ _ _ _ _ _⟩

structure Env (w : World) : Prop where
 sg : SignsAt w
 ml : ∃ m : Int, w.cell? ⟨2, 0, none⟩ = some (.int .i64 m)
 er : ∃ (t : TypeId) (p : Value), w.var? Tryz.prog "strconv.ErrRange" = some #[.iface t p]
theorem Env.later {w w' : World} (h : Env w) (hb : Below w.heap.size w w') : Env w' := by
 obtain ⟨m, hm⟩ := h.ml
 obtain ⟨t, p, hp⟩ := h.er
 exact ⟨h.sg.later hb, ⟨m, (hb.cell (World.block_lt_of_cell? w _ hm)).trans hm⟩, ⟨t, p, Qoe hp hb⟩⟩

theorem Qzc (s : ByteArray) (k : Nat) (hk : k < s.size) (hs : s.size ≤ 65536) (w : World) (hE : Env w) :
  Calls Tryz.prog 23 #[.string s, .int .i64 (k : Int)] w fun e w' => e = .returned (resT k (tokAt (s.data.toList.drop k))).val ∧ Below w.heap.size w w' := by
 have hb := Qfs w
 have hE1 := hE.later hb
 have HT := hide (show tokAt (s.data.toList.drop k) = if isL (bv s[k]) then nmRes (s.data.toList.drop k) else if isD (bv s[k]) then dgRes (s.data.toList.drop k) else if s[k] = 34 then txRes (s.data.toList.drop (k + 1)) else sgRes (s.data.toList.drop k) by
  rw [Qb s k hk]; exact Qbm _ _)
 have HE := hide hE1
 clear hE hE1
 cases hl : isL (s[k].toNat : Int) with
 | true =>
  have H := hide (show tokAt (s.data.toList.drop k) = nmRes (s.data.toList.drop k) by rw [Qa HT, if_pos (show isL (bv s[k]) = true from hl)])
  obtain ⟨T, hT⟩ : ∃ T, resT k (nmRes (s.data.toList.drop k)) = T := ⟨_, rfl⟩
  rw [Qa H, hT]
  have HC := hide (show ∀ w, Calls Tryz.prog 55 #[.string s, .int .i64 (k : Int)] w fun e w' => e = .returned T.val ∧ Below w.heap.size w w' by
   intro w; rw [← hT]; exact Qxn s k (by omega) hs w)
  clear H hT HT
  go_enter Tryz.func23, Tryz.ntmps23
  go_wp2_with fail
  refine (Qay _ _).mono ?_
  rintro e w1 ⟨rfl, rfl⟩
  rw [hl]
  go_wp2_with fail
  refine (Qa HC _).mono ?_
  rintro e w2 ⟨rfl, b2⟩
  have bx := Qav (w := w) (w2 := w2) (by simpa using b2)
  have bw : Below w.heap.size w w2 := hb.trans (b2.mono (by simp; omega))
  obtain ⟨x0, x1, x2, x3, y0, y1, fx, fy⟩ := bx
  clear b2 hb
  go_wp2_with fail
  refine bodyPost_ret (v := T.val) (by simp [results, Tryz.results23, go_sem, x0, x1, x2, x3, y0, y1]) rfl ?_
  exact ⟨rfl, Qar bw (Nat.le_refl _) (Nat.le_succ _) _ _ _ _ _ _⟩
 | false =>
  cases hd : isD (s[k].toNat : Int) with
  | true =>
   have H := hide (show tokAt (s.data.toList.drop k) = dgRes (s.data.toList.drop k) by rw [Qa HT, if_neg (by rw [show isL (bv s[k]) = false from hl]; simp), if_pos (show isD (bv s[k]) = true from hd)])
   obtain ⟨T, hT⟩ : ∃ T, resT k (dgRes (s.data.toList.drop k)) = T := ⟨_, rfl⟩
   rw [Qa H, hT]
   obtain ⟨t1, p1, hv⟩ := (Qa HE).er
   have HC := hide (show Calls Tryz.prog 57 #[.string s, .int .i64 (k : Int)] ((w.alloc tokZ).alloc fltZ) fun e w' => e = .returned T.val ∧ Below ((w.alloc tokZ).alloc fltZ).heap.size ((w.alloc tokZ).alloc fltZ) w' by
    rw [← hT]; exact Qpd s k hk hd hs _ hv)
   clear H hT HT hv
   go_enter Tryz.func23, Tryz.ntmps23
   go_wp2_with fail
   refine (Qay _ _).mono ?_
   rintro e w1 ⟨rfl, rfl⟩
   rw [hl]
   go_wp2_with fail
   refine (Qcq _ _).mono ?_
   rintro e w1 ⟨rfl, rfl⟩
   rw [hd]
   go_wp2_with fail
   refine (Qa HC).mono ?_
   rintro e w2 ⟨rfl, b2⟩
   have bx := Qav (w := w) (w2 := w2) (by simpa using b2)
   have bw : Below w.heap.size w w2 := hb.trans (b2.mono (by simp; omega))
   obtain ⟨x0, x1, x2, x3, y0, y1, fx, fy⟩ := bx
   clear b2 hb
   go_wp2_with fail
   refine bodyPost_ret (v := T.val) (by simp [results, Tryz.results23, go_sem, x0, x1, x2, x3, y0, y1]) rfl ?_
   exact ⟨rfl, Qar bw (Nat.le_refl _) (Nat.le_succ _) _ _ _ _ _ _⟩
  | false =>
   have H0 := hide (show tokAt (s.data.toList.drop k) = if s[k] = 34 then txRes (s.data.toList.drop (k + 1)) else sgRes (s.data.toList.drop k) by
    rw [Qa HT, if_neg (by rw [show isL (bv s[k]) = false from hl]; simp), if_neg (by rw [show isD (bv s[k]) = false from hd]; simp)])
   cases e1 : ((s[k].toNat : Int) == 34) with
   | true =>
    have H := hide (show tokAt (s.data.toList.drop k) = txRes (s.data.toList.drop (k + 1)) by rw [Qa H0, if_pos (show s[k] = 34 from (Qhz (k := 34) (by omega)).1 (beq_iff_eq.1 e1))])
    obtain ⟨T, hT⟩ : ∃ T, resT k (txRes (s.data.toList.drop (k + 1))) = T := ⟨_, rfl⟩
    rw [Qa H, hT]
    have HC := hide (show ∀ w, Calls Tryz.prog 58 #[.string s, .int .i64 (k : Int)] w fun e w' => e = .returned T.val ∧ Below w.heap.size w w' by
     intro w; rw [← hT]; exact Qza s k hk hs w)
    clear H hT HT H0
    go_enter Tryz.func23, Tryz.ntmps23
    go_wp2_with fail
    refine (Qay _ _).mono ?_
    rintro e w1 ⟨rfl, rfl⟩
    rw [hl]
    go_wp2_with fail
    refine (Qcq _ _).mono ?_
    rintro e w1 ⟨rfl, rfl⟩
    rw [hd]
    go_wp2_with fail
    refine (Qa HC _).mono ?_
    rintro e w2 ⟨rfl, b2⟩
    have bx := Qav (w := w) (w2 := w2) (by simpa using b2)
    have bw : Below w.heap.size w w2 := hb.trans (b2.mono (by simp; omega))
    obtain ⟨x0, x1, x2, x3, y0, y1, fx, fy⟩ := bx
    clear b2 hb
    go_wp2_with fail
    refine bodyPost_ret (v := T.val) (by simp [results, Tryz.results23, go_sem, x0, x1, x2, x3, y0, y1]) rfl ?_
    exact ⟨rfl, Qar bw (Nat.le_refl _) (Nat.le_succ _) _ _ _ _ _ _⟩
   | false =>
    have H := hide (show tokAt (s.data.toList.drop k) = sgRes (s.data.toList.drop k) by rw [Qa H0, if_neg (fun e => beq_eq_false_iff_ne.1 e1 (by rw [e]; rfl))])
    obtain ⟨T, hT⟩ : ∃ T, resT k (sgRes (s.data.toList.drop k)) = T := ⟨_, rfl⟩
    rw [Qa H, hT]
    have HC := hide (show Calls Tryz.prog 59 #[.string s, .int .i64 (k : Int)] ((w.alloc tokZ).alloc fltZ) fun e w' => e = .returned T.val ∧ Below ((w.alloc tokZ).alloc fltZ).heap.size ((w.alloc tokZ).alloc fltZ) w' by
     rw [← hT]; exact Qyq s k (by omega) hs _ (Qa HE).sg)
    clear H hT HT H0
    go_enter Tryz.func23, Tryz.ntmps23
    go_wp2_with fail
    refine (Qay _ _).mono ?_
    rintro e w1 ⟨rfl, rfl⟩
    rw [hl]
    go_wp2_with fail
    refine (Qcq _ _).mono ?_
    rintro e w1 ⟨rfl, rfl⟩
    rw [hd]
    go_wp2_with fail
    refine (Qa HC).mono ?_
    rintro e w2 ⟨rfl, b2⟩
    have bx := Qav (w := w) (w2 := w2) (by simpa using b2)
    have bw : Below w.heap.size w w2 := hb.trans (b2.mono (by simp; omega))
    obtain ⟨x0, x1, x2, x3, y0, y1, fx, fy⟩ := bx
    clear b2 hb
    go_wp2_with fail
    refine bodyPost_ret (v := T.val) (by simp [results, Tryz.results23, go_sem, x0, x1, x2, x3, y0, y1]) rfl ?_
    exact ⟨rfl, Qar bw (Nat.le_refl _) (Nat.le_succ _) _ _ _ _ _ _⟩
end
section
open Go.RowKit
def tokVals (t : Tok) : List Value := [.int .i64 t.kind, str t.text, .int .i64 t.num, .int .i64 (t.at_ : Int)]
def tokCells (l : List Tok) : List Value := l.flatMap tokVals
theorem Qlz (l : List Tok) (t : Tok) : tokCells (l ++ [t]) = tokCells l ++ tokVals t := by simp [tokCells]
def Out.toks : Out → List Tok
 | .ok l => l
 | .bad _ _ => []
def Out.why : Out → Int
 | .ok _ => 0
 | .bad w _ => w
def Out.fa : Out → Int
 | .ok _ => 0
 | .bad _ a => (a : Int)
def lexP (l : Txt) : Out := if 65536 < l.length then .bad 2 0 else scan 0 l
def TokAns (o : Out) (w w2 : World) (e : Ending) : Prop := ∃ v, e = .returned (.tuple #[v, .agg #[.int .i64 o.why, .int .i64 o.fa]]) ∧ w2.ownsRow w.heap.size 83 4 v o.toks.length (tokCells o.toks) ∧ Below w.heap.size w w2

def GSt (s : ByteArray) (k : Nat) (a why fa : Int) : Prop :=
 (why = 0 ∧ fa = 0 ∧ ∃ m : Nat, a = (m : Int) ∧ k ≤ m ∧ m ≤ s.size ∧ gapAt (s.data.toList.drop m) = .none ∧ scan k (s.data.toList.drop k) = scan m (s.data.toList.drop m)) ∨
 (why = 7 ∧ a = 0 ∧ ∃ m : Nat, fa = (m : Int) ∧ scan k (s.data.toList.drop k) = .bad 7 m)
theorem Qwj {s : ByteArray} {k : Nat} {e : Ending} (h : GapEnd s k e) : ∃ a why fa, e = .returned (.tuple #[.int .i64 a, .agg #[.int .i64 why, .int .i64 fa]]) ∧ GSt s k a why fa := by
 obtain ⟨m, hg, ⟨h1, rfl⟩ | ⟨h1, rfl⟩⟩ := h
 · exact ⟨_, _, _, rfl, .inr ⟨rfl, rfl, m, rfl, by rw [hg.2.2, Qeg h1]⟩⟩
 · exact ⟨_, _, _, rfl, .inl ⟨rfl, rfl, m, rfl, hg.1, hg.2.1, h1, hg.2.2⟩⟩

structure TkInv (s : ByteArray) (w : World) (fb : Nat) (v : Value) (wr : World) (toks : List Tok) (a why fa : Int) : Prop where
 own : wr.ownsRow (w.heap.size + 1) 83 4 v toks.length (tokCells toks)
 bel : Below w.heap.size w wr
 rb : wr.heap[w.heap.size]? = some fltZ
 fbx : wr.heap[fb]? = some (.cells #[.int .i64 why, .int .i64 fa] 31)
 fb1 : w.heap.size + 1 ≤ fb
 st : (why = 0 ∧ fa = 0 ∧ ∃ m : Nat, a = (m : Int) ∧ m ≤ s.size ∧ toks.length ≤ m ∧ gapAt (s.data.toList.drop m) = .none ∧ scan 0 s.data.toList = (scan m (s.data.toList.drop m)).app toks) ∨
  (why = 7 ∧ a = 0 ∧ ∃ m : Nat, fa = (m : Int) ∧ scan 0 s.data.toList = .bad 7 m)
def TkRel (s : ByteArray) (w : World) (fb : Nat) (v i : Value) (wr : World) : Prop :=
 ∃ (toks : List Tok) (a why fa : Int), i = .int .i64 a ∧ Hid (TkInv s w fb v wr toks a why fa)
def fltOf : Option Value → Int
 | some (.int _ q) => q
 | _ => 1
def tkMu (n fb : Nat) (i : Value) (wr : World) : Nat := if fltOf (wr.cell? ⟨fb, 0, none⟩) = 0 then n + 1 - (intOf i).toNat else 0

theorem Jbq {s : ByteArray} {w w1 : World} {a why fa : Int} (b1 : Below (w.heap.size + 1) (w.alloc fltZ) w1) (hg : GSt s 0 a why fa) :
  TkInv s w w1.heap.size (.slice none 0 0) (w1.alloc (.cells #[.int .i64 why, .int .i64 fa] 31)) [] a why fa := by
 have hs := b1.size
 simp at hs
 refine ⟨World.ownsRow_nil _ _ _ _, ?_, ?_, heap_alloc_new w1 _, hs, ?_⟩
 · exact (((Below.refl w.heap.size w).alloc (Nat.le_refl _) _).trans (b1.mono (by omega))).alloc (by omega) _
 ·
  rw [Lib.alloc_old w1 _ _ (by omega), b1.block _ (by omega)]
  exact heap_alloc_new w _
 rcases hg with ⟨h1, h2, m, h3, _, h5, h6, h7⟩ | ⟨h1, h2, m, h3, h4⟩
 ·
  refine .inl ⟨h1, h2, m, h3, h5, Nat.zero_le _, h6, ?_⟩
  rw [List.drop_zero] at h7
  rw [h7]
  cases scan m (s.data.toList.drop m) <;> rfl
 · exact .inr ⟨h1, h2, m, h3, by rw [List.drop_zero] at h4; exact h4⟩

theorem Qpp (s : ByteArray) (hl : 65536 < s.size) (hs : s.size ≤ 281474976710656) (w : World) :
  Calls Tryz.prog 11 #[.string s] w fun e w' => TokAns (lexP s.data.toList) w w' e := by
 have H := hide (show lexP s.data.toList = .bad 2 0 by unfold lexP; rw [← Qca, if_pos hl])
 go_enter Tryz.func11, Tryz.ntmps11
 go_wp2_with fail
 refine bodyPost_ret (v := .tuple #[.slice none 0 0, .agg #[.int .i64 2, .int .i64 0]]) (by simp [results, Tryz.results11, go_sem]) rfl ?_
 rw [Qa H]
 exact ⟨_, rfl, World.ownsRow_nil _ _ _ _, (Below.refl _ w).alloc (Nat.le_refl _) _⟩

theorem out_own {w wr w2 : World} {v : Value} {toks : List Tok} (h : wr.ownsRow (w.heap.size + 1) 83 4 v toks.length (tokCells toks))
  (hb : ∀ k, w.heap.size + 1 ≤ k → w2.heap[k]? = wr.heap[k]?) : w2.ownsRow w.heap.size 83 4 v toks.length (tokCells toks) := by
 refine ⟨h.1, ?_⟩
 rcases h.2 with h | ⟨g, cap, cur, hv, hg, hh, h4, h5, h6, h7⟩
 · exact .inl h
 · exact .inr ⟨g, cap, cur, hv, by omega, by rw [hb g hg]; exact hh, h4, h5, h6, h7⟩

theorem infoTok : (Tryz.prog.info? 83).map (fun i => (i.zero, i.size, i.bytes)) = some (some (.agg #[.int .i64 0, .string ⟨#[]⟩, .int .i64 0, .int .i64 0]), 4, 40) := by kernel_rfl
theorem Qox : ∃ i0 : TypeInfo, Tryz.prog.info? 83 = some i0 ∧ i0.zero = some (.agg #[.int .i64 0, .string ⟨#[]⟩, .int .i64 0, .int .i64 0]) ∧ i0.size = 4 ∧ i0.bytes = 40 := by
 obtain ⟨i0, hi, hi3⟩ := Option.map_eq_some_iff.1 infoTok
 simp only [Prod.mk.injEq] at hi3
 exact ⟨i0, hi, hi3⟩
abbrev six (w : World) (b c : Nat) (q0 q1 q2 q3 q4 q5 : Value) : World :=
 (((((w.setCell ⟨b, 0, none⟩ q0).setCell ⟨b, 1, none⟩ q1).setCell ⟨b, 2, none⟩ q2).setCell ⟨b, 3, none⟩ q3).setCell ⟨c, 0, none⟩ q4).setCell ⟨c, 1, none⟩ q5
theorem Qiy (w : World) (b c : Nat) (q0 q1 q2 q3 q4 q5 : Value) (k : Nat) (hb : k ≠ b) (hc : k ≠ c) : (six w b c q0 q1 q2 q3 q4 q5).heap[k]? = w.heap[k]? := by
 rw [heap_setCell_other _ _ _ _ hc, heap_setCell_other _ _ _ _ hc, heap_setCell_other _ _ _ _ hb, heap_setCell_other _ _ _ _ hb, heap_setCell_other _ _ _ _ hb, heap_setCell_other _ _ _ _ hb]
theorem Qpk (w : World) (b c : Nat) (q0 q1 q2 q3 q4 q5 p0 p1 : Value) (hne : c ≠ b) (h : w.heap[c]? = some (.cells #[p0, p1] 31)) : (six w b c q0 q1 q2 q3 q4 q5).heap[c]? = some (.cells #[q4, q5] 31) := by
 have h0 : ((((w.setCell ⟨b, 0, none⟩ q0).setCell ⟨b, 1, none⟩ q1).setCell ⟨b, 2, none⟩ q2).setCell ⟨b, 3, none⟩ q3).heap[c]? = some (.cells #[p0, p1] 31) := by
  rw [heap_setCell_other _ _ _ _ hne, heap_setCell_other _ _ _ _ hne, heap_setCell_other _ _ _ _ hne, heap_setCell_other _ _ _ _ hne, h]
 have h1 := heap_setCell_same _ c 0 _ _ q4 h0
 exact heap_setCell_same _ c 1 _ _ q5 h1
theorem Qpq (w : World) (c : Nat) (q4 q5 p0 p1 : Value) (h : w.heap[c]? = some (.cells #[p0, p1] 31)) : ((w.setCell ⟨c, 0, none⟩ q4).setCell ⟨c, 1, none⟩ q5).heap[c]? = some (.cells #[q4, q5] 31) :=
 heap_setCell_same _ c 1 _ _ q5 (heap_setCell_same _ c 0 _ _ q4 h)
theorem Qrv {w w' : World} {B : Nat} {v : Value} {n : Nat} {xs : List Value} (h : w.ownsRow B 83 4 v n xs) (hb : ∀ (g : Nat) (cur : Array Value), w.heap[g]? = some (.cells cur 83) → w'.heap[g]? = w.heap[g]?) : w'.ownsRow B 83 4 v n xs := by
 refine ⟨h.1, ?_⟩
 rcases h.2 with h | ⟨g, cap, cur, hv, hg, hh, h4, h5, h6, h7⟩
 · exact .inl h
 · exact .inr ⟨g, cap, cur, hv, hg, by rw [hb g cur hh]; exact hh, h4, h5, h6, h7⟩
theorem Qni {w : World} {B : Nat} {v : Value} {n : Nat} {xs : List Value} (h : w.ownsRow B 83 4 v n xs) {g : Nat} (hg : v.ownBlock = some g) : ∃ cur, w.heap[g]? = some (.cells cur 83) := by
 rcases h.2 with ⟨rfl, _⟩ | ⟨g', cap, cur, rfl, _, hh, _⟩
 · cases hg
 injection hg with hg
 subst hg
 exact ⟨cur, hh⟩
theorem own_six {wr w2 : World} {fb : Nat} {p0 p1 : Value} {B : Nat} {v : Value} {n : Nat} {xs : List Value} (h : wr.ownsRow B 83 4 v n xs) (hF : wr.heap[fb]? = some (.cells #[p0, p1] 31))
  (b2 : Below (wr.heap.size + 1) (wr.alloc tokZ) w2) (q0 q1 q2 q3 q4 q5 : Value) : (six w2 wr.heap.size fb q0 q1 q2 q3 q4 q5).ownsRow B 83 4 v n xs := by
 refine Qrv h fun g cur hg => ?_
 have hlt : g < wr.heap.size := (Array.getElem?_eq_some_iff.1 hg).1
 have hne : g ≠ fb := by
  rintro rfl
  rw [hF] at hg
  injection hg with hg
  injection hg with _ hg _
  exact absurd hg (by decide)
 rw [Qiy _ _ _ _ _ _ _ _ _ g (by omega) hne, b2.block _ (by omega), Lib.alloc_old wr _ _ hlt]
theorem Jbs (wr : World) (q0 q1 q2 q3 : Value) : ∀ j u, ([q0, q1, q2, q3] : List Value)[j]? = some u → (wr.alloc (.cells #[q0, q1, q2, q3] 83)).cell? ((⟨wr.heap.size, 0, none⟩ : Addr).add j) = some u := by
 intro j u hj
 match j, hj with
 | 0, hj => simp at hj; subst hj; simp [Addr.add]
 | 1, hj => simp at hj; subst hj; simp [Addr.add]
 | 2, hj => simp at hj; subst hj; simp [Addr.add]
 | 3, hj => simp at hj; subst hj; simp [Addr.add]
theorem tok_one (k n m : Int) (b : ByteArray) : ∀ u ∈ ([.int .i64 k, .string b, .int .i64 n, .int .i64 m] : List Value), u.oneCell' = true := by
 intro u hu
 simp at hu
 rcases hu with rfl | rfl | rfl | rfl <;> rfl
theorem Qtc (s : ByteArray) (k : Nat) (a ml : Int) (ha : a = (k : Int)) (hk : k ≤ s.size) (hs : s.size ≤ 65536) (w : World) (hm : w.cell? ⟨2, 0, none⟩ = some (.int .i64 ml)) :
  Calls Tryz.prog 22 #[.string s, .int .i64 a] w fun e w' => GapEnd s k e ∧ Below w.heap.size w w' := by
 subst ha
 exact Qig s k ml hk hs w hm
theorem Quo (toks : List Tok) (o : Out) (w : Int) (a : Nat) (h : o = .bad w a) : o.app toks = .bad w a := by subst h; rfl

theorem tk_mid {s : ByteArray} {w wr w2 w4 : World} {fb m : Nat} {v : Value} {toks : List Tok} {kd nm : Int} {tx : Txt}
  (h : TkInv s w fb v wr toks (m : Int) 0 0)
  (b2 : Below (wr.heap.size + 1) (wr.alloc tokZ) w2)
  (hgrow : ((six w2 wr.heap.size fb (.int .i64 kd) (.string ⟨tx.toArray⟩) (.int .i64 nm) (.int .i64 (m : Int)) (.int .i64 0) (.int .i64 0)).alloc (.cells #[.int .i64 kd, .string ⟨tx.toArray⟩, .int .i64 nm, .int .i64 (m : Int)] 83)).grownBy w4 v.ownBlock) :
  Below w.heap.size w w4 ∧ w4.heap[fb]? = some (.cells #[.int .i64 0, .int .i64 0] 31) := by
 have hfl : fb < wr.heap.size := (Array.getElem?_eq_some_iff.1 h.fbx).1
 have hbs := h.bel.size
 have hfb := h.fb1
 have h2s := b2.size
 simp at h2s
 have hF : ∀ cur, ¬ wr.heap[fb]? = some (.cells cur 83) := fun cur hc => by
  rw [h.fbx] at hc
  injection hc with hc
  injection hc with _ hc _
  exact absurd hc (by decide)
 have hvb : ∀ g, v.ownBlock = some g → w.heap.size + 1 ≤ g ∧ g < wr.heap.size ∧ g ≠ fb := fun g hg => by
  obtain ⟨cur, hc⟩ := Qni h.own hg
  exact ⟨(h.own.lt g hg).1, (h.own.lt g hg).2, fun e => hF cur (by rw [← e]; exact hc)⟩
 have hgs := hgrow.size
 simp at hgs
 have f4 : w4.heap[fb]? = some (.cells #[.int .i64 0, .int .i64 0] 31) := by
  rw [hgrow.block fb (by simp; omega) (fun e => (hvb fb e.symm).2.2 rfl), Lib.alloc_old _ _ _ (by simp; omega)]
  refine Qpk _ _ _ _ _ _ _ _ _ (.int .i64 0) (.int .i64 0) (by omega) ?_
  rw [b2.block _ (by omega), Lib.alloc_old wr _ _ hfl]
  exact h.fbx
 have bel2 : Below w.heap.size w w2 := (h.bel.alloc (by omega) _).trans (b2.mono (by omega))
 have bel4 : Below w.heap.size w w4 :=
  ((Qar bel2 (b := wr.heap.size) (c := fb) (by omega) (by omega) _ _ _ _ _ _).alloc (by simp; omega) _).grown hgrow (by simp; omega) (fun g hg => by have := (hvb g hg).1; omega)
 exact ⟨bel4, f4⟩

theorem tk_next {s : ByteArray} {w wr w2 w4 w5 : World} {fb m n : Nat} {v v' : Value} {toks : List Tok} {kd nm : Int} {tx : Txt} {a why fa : Int}
  (h : TkInv s w fb v wr toks (m : Int) 0 0) (hn : 0 < n) (htl : toks.length ≤ m) (hgap : gapAt (s.data.toList.drop m) = .none) (ht : tokAt (s.data.toList.drop m) = .tok kd tx nm n)
  (hsc : scan 0 s.data.toList = (scan m (s.data.toList.drop m)).app toks)
  (b2 : Below (wr.heap.size + 1) (wr.alloc tokZ) w2)
  (hown : w4.ownsRow (w.heap.size + 1) 83 4 v' (toks.length + 1) (tokCells toks ++ [.int .i64 kd, .string ⟨tx.toArray⟩, .int .i64 nm, .int .i64 (m : Int)]))
  (hgrow : ((six w2 wr.heap.size fb (.int .i64 kd) (.string ⟨tx.toArray⟩) (.int .i64 nm) (.int .i64 (m : Int)) (.int .i64 0) (.int .i64 0)).alloc (.cells #[.int .i64 kd, .string ⟨tx.toArray⟩, .int .i64 nm, .int .i64 (m : Int)] 83)).grownBy w4 v.ownBlock)
  (b5 : Below w4.heap.size w4 w5) (hg : GSt s (m + n) a why fa) :
  TkInv s w fb v' ((w5.setCell ⟨fb, 0, none⟩ (.int .i64 why)).setCell ⟨fb, 1, none⟩ (.int .i64 fa)) (toks ++ [⟨kd, tx, nm, m⟩]) a why fa ∧ ((why = 0 → (m : Int) < a) ∧ (why = 0 ∨ why = 7)) := by
 have hfl : fb < wr.heap.size := (Array.getElem?_eq_some_iff.1 h.fbx).1
 have hbs := h.bel.size
 have hfb := h.fb1
 have h2s := b2.size
 simp at h2s
 have hF : ∀ cur, ¬ wr.heap[fb]? = some (.cells cur 83) := fun cur hc => by
  rw [h.fbx] at hc
  injection hc with hc
  injection hc with _ hc _
  exact absurd hc (by decide)
 have hvb : ∀ g, v.ownBlock = some g → w.heap.size + 1 ≤ g ∧ g < wr.heap.size ∧ g ≠ fb := fun g hg => by
  obtain ⟨cur, hc⟩ := Qni h.own hg
  exact ⟨(h.own.lt g hg).1, (h.own.lt g hg).2, fun e => hF cur (by rw [← e]; exact hc)⟩
 have hgs := hgrow.size
 simp at hgs
 have f4 : w4.heap[fb]? = some (.cells #[.int .i64 0, .int .i64 0] 31) := by
  rw [hgrow.block fb (by simp; omega) (fun e => (hvb fb e.symm).2.2 rfl), Lib.alloc_old _ _ _ (by simp; omega)]
  refine Qpk _ _ _ _ _ _ _ _ _ (.int .i64 0) (.int .i64 0) (by omega) ?_
  rw [b2.block _ (by omega), Lib.alloc_old wr _ _ hfl]
  exact h.fbx
 have r4 : w4.heap[w.heap.size]? = some fltZ := by
  rw [hgrow.block _ (by simp; omega) (fun e => by have := (hvb _ e.symm).1; omega), Lib.alloc_old _ _ _ (by simp; omega),
   Qiy _ _ _ _ _ _ _ _ _ _ (by omega) (by omega), b2.block _ (by omega), Lib.alloc_old wr _ _ (by omega)]
  exact h.rb
 have bel2 : Below w.heap.size w w2 := (h.bel.alloc (by omega) _).trans (b2.mono (by omega))
 have bel4 : Below w.heap.size w w4 :=
  ((Qar bel2 (b := wr.heap.size) (c := fb) (by omega) (by omega) _ _ _ _ _ _).alloc (by simp; omega) _).grown hgrow (by simp; omega) (fun g hg => by have := (hvb g hg).1; omega)
 have hfl4 : fb < w4.heap.size := by omega
 have f5 : w5.heap[fb]? = some (.cells #[.int .i64 0, .int .i64 0] 31) := by rw [b5.block _ hfl4]; exact f4
 have n1 : w.heap.size ≠ fb := by omega
 refine ⟨⟨?_, ?_, ?_, Qpq _ _ _ _ _ _ f5, h.fb1, ?_⟩, ?_, ?_⟩
 ·
  have e : tokCells (toks ++ [⟨kd, tx, nm, m⟩]) = tokCells toks ++ [.int .i64 kd, .string ⟨tx.toArray⟩, .int .i64 nm, .int .i64 (m : Int)] := Qlz _ _
  rw [e, List.length_append]
  refine Qrv hown fun g cur hg => ?_
  have hg4 : g < w4.heap.size := (Array.getElem?_eq_some_iff.1 hg).1
  have hne : g ≠ fb := by
   rintro rfl
   rw [f4] at hg
   injection hg with hg
   injection hg with _ hg _
   exact absurd hg (by decide)
  rw [heap_setCell_other _ _ _ _ hne, heap_setCell_other _ _ _ _ hne, b5.block _ hg4]
 · exact ((bel4.trans (b5.mono bel4.size)).setCell (p := ⟨fb, 0, none⟩) (by show w.heap.size ≤ fb; omega) _).setCell (p := ⟨fb, 1, none⟩) (by show w.heap.size ≤ fb; omega) _
 ·
  rw [heap_setCell_other _ _ _ _ n1, heap_setCell_other _ _ _ _ n1, b5.block _ (by omega)]
  exact r4
 ·
  have hs1 : scan 0 s.data.toList = (scan (m + n) (s.data.toList.drop (m + n))).app (toks ++ [⟨kd, tx, nm, m⟩]) := by
   rw [hsc, Qfr hgap ht, Qzv, List.drop_drop]
  rcases hg with ⟨h1, h2, j, h3, h4, h5, h6, h7⟩ | ⟨h1, h2, j, h3, h4⟩
  · exact .inl ⟨h1, h2, j, h3, h5, by rw [List.length_append]; simp; omega, h6, by rw [hs1, h7]⟩
  · exact .inr ⟨h1, h2, j, h3, by rw [hs1]; exact Quo _ _ _ _ h4⟩
 ·
  intro h0
  rcases hg with ⟨h1, h2, j, h3, h4, h5, h6, h7⟩ | ⟨h1, h2, j, h3, h4⟩
  · omega
  · omega
 rcases hg with h | h
 · exact .inl h.1
 · exact .inr h.1
end
end Go.Proofs.YtccehgfecaamoaaGreatDoor
