/- Walks of what a backslash means, and of the document's words and names. The library's contracts that the lexer's walk takes, laid at this program. Walks of words and names, the program's and the document's. -/
import Derived.Test.YtjebglmpopijhaaGreatDoorMs01
import Derived.Shelf.Small.Strs
import Derived.Shelf.Small.Wraps
import Derived.Shelf.LaysM
import Derived.Shelf.LaysC
import Derived.Shelf.Strconv.Clone
import Derived.Shelf.Strconv.AtoiAll
import Derived.Shelf.Strconv.ErrVarAll
import Derived.Shelf.Strings.Search3
import Derived.Shelf.Strings.Shaped
import Derived.Shelf.Strings.Prefix
import Derived.Lib.AtoiTie
import Derived.Lib.AtoiErrMem
import Derived.Test.YtjebglmpopijhaaGreatDoorProg
set_option maxRecDepth 100000
set_option maxHeartbeats 32000000
namespace Go.Proofs.YtjebglmpopijhaaGreatDoor
section
open Go.RowKit
def escI (n : Int) : Int × Bool := if n = 34 ∨ n = 92 then (n, true) else if n = 110 then (10, true) else if n = 116 then (9, true) else (0, false)
def escR : Txt → Int × Bool
 | [] => (0, false)
 | c :: _ => escI (bv c)
theorem Qew {a : Int} {b : Bool} {p : Int × Bool} (h : p = (a, b)) : Ending.returned (.tuple #[.int .u8 a, .bool b]) = .returned (.tuple #[.int .u8 p.1, .bool p.2]) := by subst h; rfl
theorem Qln {c b : UInt8} (h : esc c = some b) : escI (bv c) = (bv b, true) := by
 unfold esc at h
 split at h
 ·
  rename_i h1
  cases h
  unfold escI
  rw [if_pos]
  rcases h1 with rfl | rfl
  · exact .inl rfl
  · exact .inr rfl
 split at h
 · rename_i h2; subst h2; cases h; rfl
 split at h
 · rename_i h3; subst h3; cases h; rfl
 · cases h
theorem Qru {c : UInt8} (h : esc c = none) : escI (bv c) = (0, false) := by
 unfold esc at h
 split at h
 · cases h
 rename_i h1
 split at h
 · cases h
 rename_i h2
 split at h
 · cases h
 rename_i h3
 unfold escI
 rw [if_neg, if_neg, if_neg]
 · exact fun e => h3 ((Qdj (k := 116) (by omega)).1 e)
 · exact fun e => h2 ((Qdj (k := 110) (by omega)).1 e)
 rintro (e | e)
 · exact h1 (.inl ((Qdj (k := 34) (by omega)).1 e))
 · exact h1 (.inr ((Qdj (k := 92) (by omega)).1 e))

theorem Qkk (s : ByteArray) (hs : s.size ≤ 140737488355328) (w : World) :
  Calls Tryz.prog 127 #[.string s] w fun e w' => e = .returned (.tuple #[.int .u8 (escR s.data.toList).1, .bool (escR s.data.toList).2]) ∧ w' = w := by
 by_cases h0 : 0 < s.size
 ·
  have H := hide (show escR s.data.toList = escI (s[0].toNat : Int) by
   have := Qaj s 0 h0
   rw [List.drop_zero] at this
   rw [this]; rfl)
  have hne : s.toList.isEmpty = false := by
   have := Qaj s 0 h0
   rw [List.drop_zero] at this
   rw [Lib.toList_data, this]; rfl
  cases e1 : ((s[0].toNat : Int) == 34) with
  | true =>
   go_enter Tryz.func127, Tryz.ntmps127
   go_wp2
   go_ret2
   refine ⟨Qew ?_, rfl⟩
   rw [Qa H]
   unfold escI
   rw [if_pos (.inl (beq_iff_eq.1 e1))]
  | false =>
   have n1 := beq_eq_false_iff_ne.1 e1
   cases e2 : ((s[0].toNat : Int) == 92) with
   | true =>
    go_enter Tryz.func127, Tryz.ntmps127
    go_wp2
    go_ret2
    refine ⟨Qew ?_, rfl⟩
    rw [Qa H]
    unfold escI
    rw [if_pos (.inr (beq_iff_eq.1 e2))]
   | false =>
    have n2 := beq_eq_false_iff_ne.1 e2
    cases e3 : ((s[0].toNat : Int) == 110) with
    | true =>
     go_enter Tryz.func127, Tryz.ntmps127
     go_wp2
     go_ret2
     refine ⟨Qew ?_, rfl⟩
     rw [Qa H]
     unfold escI
     rw [if_neg (by omega), if_pos (beq_iff_eq.1 e3)]
    | false =>
     have n3 := beq_eq_false_iff_ne.1 e3
     cases e4 : ((s[0].toNat : Int) == 116) with
     | true =>
      go_enter Tryz.func127, Tryz.ntmps127
      go_wp2
      go_ret2
      refine ⟨Qew ?_, rfl⟩
      rw [Qa H]
      unfold escI
      rw [if_neg (by omega), if_neg n3, if_pos (beq_iff_eq.1 e4)]
     | false =>
      have n4 := beq_eq_false_iff_ne.1 e4
      go_enter Tryz.func127, Tryz.ntmps127
      go_wp2
      go_ret2
      refine ⟨Qew ?_, rfl⟩
      rw [Qa H]
      unfold escI
      rw [if_neg (by omega), if_neg n3, if_neg n4]
 have e : s = ⟨#[]⟩ := ByteArray.ext (Array.eq_empty_of_size_eq_zero (by have : s.size = s.data.size := rfl; omega))
 subst e
 go_enter Tryz.func127, Tryz.ntmps127
 go_wp2
 go_ret2
 exact ⟨rfl, rfl⟩

theorem at_pre (s : ByteArray) (k : Nat) (t : ByteArray) (h : k + t.size ≤ s.size) : ((s.extract k (k + t.size)).toList == t.toList) = pre t.data.toList (s.data.toList.drop k) := by
 rw [Lib.toList_data, Lib.toList_data]
 unfold pre
 rw [← Lib.hasPrefix_of_take]
 have e : (s.extract k (k + t.size)).data.toList = (s.data.toList.drop k).take t.data.toList.length := by
  have : (s.extract k (k + t.size)).data = s.data.extract k (k + t.size) := by simp
  rw [this, Array.toList_extract]
  simp [List.take_drop]
 rw [e]
 have e2 : decide (t.data.toList.length ≤ (s.data.toList.drop k).length) = true := by
  rw [decide_eq_true_eq, Qaw, Array.length_toList]
  have : t.size = t.data.size := rfl
  omega
 rw [e2, Bool.true_and]
theorem Qpz {s : ByteArray} {k : Nat} {t : ByteArray} (h : ¬ k + t.size ≤ s.size) (hk : k ≤ s.size) : pre t.data.toList (s.data.toList.drop k) = false := by
 cases hp : pre t.data.toList (s.data.toList.drop k) with
 | false => rfl
 | true =>
  have := Qfj hp
  rw [Qaw, Array.length_toList] at this
  have : t.size = t.data.size := rfl
  omega
theorem at_any (s : ByteArray) (k : Nat) (t : ByteArray) (hk : k ≤ s.size) (hs : s.size ≤ 140737488355328) (ht : t.size ≤ 1000) (w : World) :
  Calls Tryz.prog 83 #[.string s, .int .i64 (k : Int), .string t] w fun e w' => e = .returned (.bool (pre t.data.toList (s.data.toList.drop k))) ∧ w' = w := by
 by_cases h : k + t.size ≤ s.size
 ·
  have H := hide (at_pre s k t h)
  have h3 : ((k : Int) + (t.size : Int)).toNat = k + t.size := by omega
  have hrun : ∀ w : World, (Instr.slice 9 (.string s) (some (.int .i64 (k : Int))) (some (.int .i64 ((k : Int) + (t.size : Int)))) none).run Tryz.prog w = .ok (.string (s.extract k (k + t.size))) w := by
   intro w
   have := run_slice_string (P := Tryz.prog) w 9 s .i64 .i64 (k : Int) ((k : Int) + (t.size : Int)) Tryz.underlying9 (by omega) (by omega) (by omega)
   rw [h3] at this
   exact this
  obtain ⟨u, hu⟩ : ∃ u, s.extract k (k + t.size) = u := ⟨_, rfl⟩
  rw [hu] at hrun H
  clear h3 hu
  go_enter Tryz.func83, Tryz.ntmps83
  go_wp2
  go_ret
  exact ⟨Qbk (Qa H), rfl⟩
 have H := hide (Qpz h hk)
 go_enter Tryz.func83, Tryz.ntmps83
 go_wp2
 go_ret
 exact ⟨Qbk (Qa H).symm, rfl⟩

def wdAt (s : ByteArray) (i n : Nat) : Nat := if n = 0 then wdLen (s.data.toList.drop i) else n + wcn (s.data.toList.drop (i + n))
theorem Qkf {s : ByteArray} {i n : Nat} (h : i + n < s.size) (hc : isL (bv s[i + n]) = true ∨ (0 < n ∧ isD (bv s[i + n]) = true)) : wdAt s i n = wdAt s i (n + 1) := by
 unfold wdAt
 rw [if_neg (by omega : ¬ n + 1 = 0)]
 by_cases h0 : n = 0
 ·
  subst h0
  rw [if_pos rfl]
  rcases hc with hc | hc
  ·
   simp only [Nat.add_zero, Nat.zero_add] at hc ⊢
   rw [Qaj s i (by omega), Qgy, if_pos hc]; omega
  · exact absurd hc.1 (by omega)
 rw [if_neg h0, Qaj s (i + n) h]
 have : inW (bv s[i + n]) = true := by
  rcases hc with hc | hc
  · exact Qox hc
  · exact inW_D hc.2
 have e : wcn (s[i + n] :: s.data.toList.drop (i + n + 1)) = wcn (s.data.toList.drop (i + n + 1)) + 1 := by simp [wcn, this]
 have e2 : i + (n + 1) = i + n + 1 := rfl
 rw [e, e2]; omega
theorem Qim {s : ByteArray} {i n : Nat} (h : ∀ hlt : i + n < s.size, isL (bv s[i + n]) = false ∧ (0 < n → isD (bv s[i + n]) = false)) : wdAt s i n = n := by
 unfold wdAt
 by_cases hlt : i + n < s.size
 ·
  obtain ⟨h1, h2⟩ := h hlt
  by_cases h0 : n = 0
  ·
   subst h0
   rw [if_pos rfl]
   simp only [Nat.add_zero] at h1 hlt
   rw [Qaj s i hlt, Qgy, if_neg (by simp [h1])]
  rw [if_neg h0, Qaj s (i + n) hlt]
  have : inW (bv s[i + n]) = false := by unfold inW; rw [h1, h2 (by omega)]; rfl
  simp [wcn, this]
 by_cases h0 : n = 0
 ·
  subst h0
  rw [if_pos rfl, Qbi s i (by omega)]; rfl
 · rw [if_neg h0, Qbi s (i + n) (by omega)]; rfl

theorem Qjn (s : ByteArray) (k : Nat) (hk : k ≤ s.size) (hs : s.size ≤ 140737488355328) (w : World) :
  Calls Tryz.prog 84 #[.string s, .int .i64 (k : Int)] w fun e w' => e = .returned (.int .i64 (wdLen (s.data.toList.drop k) : Int)) ∧ w' = w := by
 go_enter Tryz.func84, Tryz.ntmps84
 go_wp2
 go_loop [5] (fun i => ∃ m : Nat, k + m ≤ s.size ∧ i = .int .i64 (m : Int) ∧ Hid (wdLen (s.data.toList.drop k) = wdAt s k m)) (fun i => s.size - (intOf i).toNat)
 case atStart => exact ⟨0, by omega, rfl, hide rfl⟩
 obtain ⟨m, hm, rfl, HH⟩ := hrel
 by_cases hlt : k + m < s.size
 ·
  cases hl : isL (s[k + m].toNat : Int) with
  | true =>
   go_wp2_with (go_at_call 85; refine (Qcl _ _).mono ?_; rintro e w' ⟨rfl, rfl⟩; rw [hl])
   go_round
   case rel => exact ⟨m + 1, by omega, by go_num, hide ((Qa HH).trans (Qkf hlt (.inl hl)))⟩
   case measure => simp [intOf]; omega
  | false =>
   by_cases h0 : 0 < m
   ·
    cases hd : isD (s[k + m].toNat : Int) with
    | true =>
     go_wp2_with (first
      | (go_at_call 85; refine (Qcl _ _).mono ?_; rintro e w' ⟨rfl, rfl⟩; rw [hl])
      | (go_at_call 43; refine (Qbv _ _).mono ?_; rintro e w' ⟨rfl, rfl⟩; rw [hd]))
     go_round
     case rel => exact ⟨m + 1, by omega, by go_num, hide ((Qa HH).trans (Qkf hlt (.inr ⟨h0, hd⟩)))⟩
     case measure => simp [intOf]; omega
    | false =>
     go_wp2_with (first
      | (go_at_call 85; refine (Qcl _ _).mono ?_; rintro e w' ⟨rfl, rfl⟩; rw [hl])
      | (go_at_call 43; refine (Qbv _ _).mono ?_; rintro e w' ⟨rfl, rfl⟩; rw [hd]))
     go_ret
     exact ⟨Qax (by have := Qa HH; have := Qim (s := s) (i := k) (n := m) (fun _ => ⟨hl, fun _ => hd⟩); omega), rfl⟩
   go_wp2_with (go_at_call 85; refine (Qcl _ _).mono ?_; rintro e w' ⟨rfl, rfl⟩; rw [hl])
   go_ret
   exact ⟨Qax (by have := Qa HH; have := Qim (s := s) (i := k) (n := m) (fun _ => ⟨hl, fun h => absurd h h0⟩); omega), rfl⟩
 go_wp2
 go_ret
 exact ⟨Qax (by have := Qa HH; have := Qim (s := s) (i := k) (n := m) (fun h => absurd h hlt); omega), rfl⟩
end
end Go.Proofs.YtjebglmpopijhaaGreatDoor
namespace Go.Proofs
open Go.Shelf
def Tryz.lays137_ren : Go.Shelf.Ren := ⟨fun | 137 => 119 | 217 => 141 | 266 => 169 | n => n, fun | 9 => 9 | 5 => 5 | 3 => 3 | n => n, fun | n => n⟩
theorem Tryz.lays137 : Go.Proofs.Lays.n137 Tryz.prog Tryz.lays137_ren := {
  mixed := by kernel_rfl
  f137 := Tryz.func119.trans (congrArg some (by kernel_rfl))
  f217 := Tryz.func141.trans (congrArg some (by kernel_rfl))
  f266 := Tryz.func169.trans (congrArg some (by kernel_rfl))
  t3 := Tryz.underlying3
  a3 := Tryz.isAgg3
  z3 := Tryz.sizeOf3
  v3 := Tryz.zeroValue3
  t5 := Tryz.underlying5
  a5 := Tryz.isAgg5
  z5 := Tryz.sizeOf5
  v5 := Tryz.zeroValue5
  t9 := Tryz.underlying9
  a9 := Tryz.isAgg9
  z9 := Tryz.sizeOf9
  v9 := Tryz.zeroValue9 }
open Go.RowKit in
theorem Tryz.strings_IndexByte (s : ByteArray) (c : Int) (w : World) :
    Calls Tryz.prog 119 #[.string s, .int .u8 c] w fun e w' => e = .returned (.int .i64 (Lib.indexByte s.data.toList c.toNat.toUInt8)) ∧ w' = w := Any.strings_IndexByte Tryz.lays137 s c w
def Tryz.lays103_ren : Go.Shelf.Ren := ⟨fun | 103 => 146 | 210 => 177 | 206 => 118 | n => n, fun | 9 => 9 | 4 => 4 | 24 => 193 | 3 => 3 | n => n, fun | n => n⟩
theorem Tryz.lays103 : Go.Proofs.Lays.n103 Tryz.prog Tryz.lays103_ren := {
  mixed := by kernel_rfl
  f103 := Tryz.func146.trans (congrArg some (by kernel_rfl))
  f206 := Tryz.func118.trans (congrArg some (by kernel_rfl))
  f210 := Tryz.func177.trans (congrArg some (by kernel_rfl))
  t3 := Tryz.underlying3
  a3 := Tryz.isAgg3
  z3 := Tryz.sizeOf3
  v3 := Tryz.zeroValue3
  t4 := Tryz.underlying4
  a4 := Tryz.isAgg4
  z4 := Tryz.sizeOf4
  v4 := Tryz.zeroValue4
  t9 := Tryz.underlying9
  a9 := Tryz.isAgg9
  z9 := Tryz.sizeOf9
  v9 := Tryz.zeroValue9
  t24 := Tryz.underlying193
  a24 := Tryz.isAgg193
  z24 := Tryz.sizeOf193
  v24 := Tryz.zeroValue193 }
open Go.RowKit in
theorem Tryz.strings_CutPrefix (s p : ByteArray) (w : World) :
    Calls Tryz.prog 146 #[.string s, .string p] w fun e w' => e = .returned (.tuple #[.string ⟨(Lib.trimPrefix s.data.toList p.data.toList).toArray⟩, .bool (Lib.hasPrefix s.data.toList p.data.toList)]) ∧ w' = w := Any.strings_CutPrefix Tryz.lays103 s p w
def Tryz.laysM316_ren : Go.Shelf.Ren := ⟨fun | 316 => 143 | n => n, fun | 9 => 9 | 3 => 3 | 4 => 4 | 37 => 96 | 0 => 0 | 127 => 146 | 5 => 5 | n => n, fun | n => n⟩
theorem Tryz.laysM316 : Go.Proofs.LaysM.n316 Tryz.prog Tryz.laysM316_ren := {
  mixed := by kernel_rfl
  f316 := Tryz.func143.trans (congrArg some (by kernel_rfl))
  t0 := Tryz.underlying0
  a0 := Tryz.isAgg0
  z0 := Tryz.sizeOf0
  v0 := Tryz.zeroValue0
  t3 := Tryz.underlying3
  a3 := Tryz.isAgg3
  z3 := Tryz.sizeOf3
  v3 := Tryz.zeroValue3
  t4 := Tryz.underlying4
  a4 := Tryz.isAgg4
  z4 := Tryz.sizeOf4
  v4 := Tryz.zeroValue4
  t9 := Tryz.underlying9
  a9 := Tryz.isAgg9
  z9 := Tryz.sizeOf9
  v9 := Tryz.zeroValue9
  t37 := Tryz.underlying96
  a37 := Tryz.isAgg96
  z37 := Tryz.sizeOf96
  v37 := Tryz.zeroValue96
  t127 := Tryz.underlying146
  a127 := Tryz.isAgg146
  z127 := Tryz.sizeOf146
  v127 := Tryz.zeroValue146
  t5 := Tryz.underlying5
  a5 := Tryz.isAgg5
  z5 := Tryz.sizeOf5
  v5 := Tryz.zeroValue5
  i0 := by kernel_rfl
  i3 := by kernel_rfl
  i4 := by kernel_rfl
  i5 := by kernel_rfl
  i9 := by kernel_rfl
  i37 := by kernel_rfl
  i127 := by kernel_rfl }
open Go.RowKit in
theorem Tryz.stringslite_Clone (s : ByteArray) (w : World) (hlim : s.size ≤ 281474976710656) :
    Calls Tryz.prog 143 #[.string s] w fun e w' => e = .returned (.string s) ∧ Below w.heap.size w w' := Any.stringslite_Clone Tryz.laysM316 s w hlim
def Tryz.laysC172_ren : Go.Shelf.Ren := ⟨fun | 172 => 145 | 244 => 175 | 245 => 176 | 247 => 191 | 279 => 192 | 280 => 193 | 281 => 194 | 282 => 195 | 287 => 205 | 316 => 143 | 171 => 184 | 205 => 206 | 321 => 213 | 322 => 214 | 243 => 201 | 246 => 209 | 283 => 217 | 284 => 218 | 285 => 219 | 286 => 220 | 129 => 225 | 317 => 224 | 318 => 226 | 319 => 227 | 320 => 228 | 337 => 229 | 338 => 230 | n => n, fun | 9 => 9 | 3 => 3 | 75 => 186 | 76 => 187 | 4 => 4 | 5 => 5 | 167 => 223 | 37 => 96 | 0 => 0 | 85 => 224 | 2 => 2 | 168 => 226 | 53 => 235 | 175 => 236 | 46 => 209 | 210 => 239 | 127 => 146 | 145 => 248 | 143 => 246 | 21 => 21 | 171 => 249 | 173 => 252 | 212 => 255 | 51 => 220 | 20 => 20 | 213 => 256 | 232 => 260 | 233 => 261 | 80 => 102 | n => n, fun | 15 => 3 | 16 => 4 | 17 => 5 | 18 => 6 | 19 => 7 | n => n⟩
theorem Tryz.laysC172 : Go.Proofs.LaysC.n172 Tryz.prog Tryz.laysC172_ren := {
  mixed := by kernel_rfl
  f129 := Tryz.func225.trans (congrArg some (by kernel_rfl))
  f171 := Tryz.func184.trans (congrArg some (by kernel_rfl))
  f172 := Tryz.func145.trans (congrArg some (by kernel_rfl))
  f205 := Tryz.func206.trans (congrArg some (by kernel_rfl))
  f243 := Tryz.func201.trans (congrArg some (by kernel_rfl))
  f244 := Tryz.func175.trans (congrArg some (by kernel_rfl))
  f245 := Tryz.func176.trans (congrArg some (by kernel_rfl))
  f246 := Tryz.func209.trans (congrArg some (by kernel_rfl))
  f247 := Tryz.func191.trans (congrArg some (by kernel_rfl))
  f279 := Tryz.func192.trans (congrArg some (by kernel_rfl))
  f280 := Tryz.func193.trans (congrArg some (by kernel_rfl))
  f281 := Tryz.func194.trans (congrArg some (by kernel_rfl))
  f282 := Tryz.func195.trans (congrArg some (by kernel_rfl))
  f283 := Tryz.func217.trans (congrArg some (by kernel_rfl))
  f284 := Tryz.func218.trans (congrArg some (by kernel_rfl))
  f285 := Tryz.func219.trans (congrArg some (by kernel_rfl))
  f286 := Tryz.func220.trans (congrArg some (by kernel_rfl))
  f287 := Tryz.func205.trans (congrArg some (by kernel_rfl))
  f316 := Tryz.func143.trans (congrArg some (by kernel_rfl))
  f317 := Tryz.func224.trans (congrArg some (by kernel_rfl))
  f318 := Tryz.func226.trans (congrArg some (by kernel_rfl))
  f319 := Tryz.func227.trans (congrArg some (by kernel_rfl))
  f320 := Tryz.func228.trans (congrArg some (by kernel_rfl))
  f321 := Tryz.func213.trans (congrArg some (by kernel_rfl))
  f322 := Tryz.func214.trans (congrArg some (by kernel_rfl))
  f337 := Tryz.func229.trans (congrArg some (by kernel_rfl))
  f338 := Tryz.func230.trans (congrArg some (by kernel_rfl))
  t0 := Tryz.underlying0
  a0 := Tryz.isAgg0
  z0 := Tryz.sizeOf0
  v0 := Tryz.zeroValue0
  t2 := Tryz.underlying2
  a2 := Tryz.isAgg2
  z2 := Tryz.sizeOf2
  v2 := Tryz.zeroValue2
  t3 := Tryz.underlying3
  a3 := Tryz.isAgg3
  z3 := Tryz.sizeOf3
  v3 := Tryz.zeroValue3
  t4 := Tryz.underlying4
  a4 := Tryz.isAgg4
  z4 := Tryz.sizeOf4
  v4 := Tryz.zeroValue4
  t5 := Tryz.underlying5
  a5 := Tryz.isAgg5
  z5 := Tryz.sizeOf5
  v5 := Tryz.zeroValue5
  t9 := Tryz.underlying9
  a9 := Tryz.isAgg9
  z9 := Tryz.sizeOf9
  v9 := Tryz.zeroValue9
  t20 := Tryz.underlying20
  a20 := Tryz.isAgg20
  z20 := Tryz.sizeOf20
  v20 := Tryz.zeroValue20
  t21 := Tryz.underlying21
  a21 := Tryz.isAgg21
  z21 := Tryz.sizeOf21
  v21 := Tryz.zeroValue21
  t37 := Tryz.underlying96
  a37 := Tryz.isAgg96
  z37 := Tryz.sizeOf96
  v37 := Tryz.zeroValue96
  t46 := Tryz.underlying209
  a46 := Tryz.isAgg209
  z46 := Tryz.sizeOf209
  v46 := Tryz.zeroValue209
  t51 := Tryz.underlying220
  a51 := Tryz.isAgg220
  z51 := Tryz.sizeOf220
  v51 := Tryz.zeroValue220
  t53 := Tryz.underlying235
  a53 := Tryz.isAgg235
  z53 := Tryz.sizeOf235
  v53 := Tryz.zeroValue235
  t75 := Tryz.underlying186
  a75 := Tryz.isAgg186
  z75 := Tryz.sizeOf186
  v75 := Tryz.zeroValue186
  t76 := Tryz.underlying187
  a76 := Tryz.isAgg187
  z76 := Tryz.sizeOf187
  v76 := Tryz.zeroValue187
  t85 := Tryz.underlying224
  a85 := Tryz.isAgg224
  z85 := Tryz.sizeOf224
  v85 := Tryz.zeroValue224
  t127 := Tryz.underlying146
  a127 := Tryz.isAgg146
  z127 := Tryz.sizeOf146
  v127 := Tryz.zeroValue146
  t143 := Tryz.underlying246
  a143 := Tryz.isAgg246
  z143 := Tryz.sizeOf246
  v143 := Tryz.zeroValue246
  t145 := Tryz.underlying248
  a145 := Tryz.isAgg248
  z145 := Tryz.sizeOf248
  v145 := Tryz.zeroValue248
  t167 := Tryz.underlying223
  a167 := Tryz.isAgg223
  z167 := Tryz.sizeOf223
  v167 := Tryz.zeroValue223
  t168 := Tryz.underlying226
  a168 := Tryz.isAgg226
  z168 := Tryz.sizeOf226
  v168 := Tryz.zeroValue226
  t171 := Tryz.underlying249
  a171 := Tryz.isAgg249
  z171 := Tryz.sizeOf249
  v171 := Tryz.zeroValue249
  t173 := Tryz.underlying252
  a173 := Tryz.isAgg252
  z173 := Tryz.sizeOf252
  v173 := Tryz.zeroValue252
  t175 := Tryz.underlying236
  a175 := Tryz.isAgg236
  z175 := Tryz.sizeOf236
  v175 := Tryz.zeroValue236
  t210 := Tryz.underlying239
  a210 := Tryz.isAgg239
  z210 := Tryz.sizeOf239
  v210 := Tryz.zeroValue239
  t212 := Tryz.underlying255
  a212 := Tryz.isAgg255
  z212 := Tryz.sizeOf255
  v212 := Tryz.zeroValue255
  t213 := Tryz.underlying256
  a213 := Tryz.isAgg256
  z213 := Tryz.sizeOf256
  t232 := Tryz.underlying260
  a232 := Tryz.isAgg260
  z232 := Tryz.sizeOf260
  v232 := Tryz.zeroValue260
  t233 := Tryz.underlying261
  a233 := Tryz.isAgg261
  z233 := Tryz.sizeOf261
  v233 := Tryz.zeroValue261
  g15 := by kernel_rfl
  g16 := by kernel_rfl
  g17 := by kernel_rfl
  g18 := by kernel_rfl
  g19 := by kernel_rfl
  t80 := Tryz.underlying102
  a80 := Tryz.isAgg102
  z80 := Tryz.sizeOf102
  v80 := Tryz.zeroValue102
  i0 := by kernel_rfl
  i2 := by kernel_rfl
  i3 := by kernel_rfl
  i4 := by kernel_rfl
  i5 := by kernel_rfl
  i9 := by kernel_rfl
  i20 := by kernel_rfl
  i21 := by kernel_rfl
  i37 := by kernel_rfl
  i46 := by kernel_rfl
  i51 := by kernel_rfl
  i53 := by kernel_rfl
  i75 := by kernel_rfl
  i76 := by kernel_rfl
  i80 := by kernel_rfl
  i85 := by kernel_rfl
  i127 := by kernel_rfl
  i143 := by kernel_rfl
  i145 := by kernel_rfl
  i167 := by kernel_rfl
  i168 := by kernel_rfl
  i171 := by kernel_rfl
  i173 := by kernel_rfl
  i175 := by kernel_rfl
  i210 := by kernel_rfl
  i212 := by kernel_rfl
  i232 := by kernel_rfl
  i233 := by kernel_rfl
  m15 := by kernel_rfl
  m16 := by kernel_rfl
  m17 := by kernel_rfl
  m18 := by kernel_rfl
  m19 := by kernel_rfl
  c0 := by kernel_rfl
  c2 := by kernel_rfl
  c3 := by kernel_rfl
  c4 := by kernel_rfl
  c5 := by kernel_rfl
  c9 := by kernel_rfl
  c20 := by kernel_rfl
  c21 := by kernel_rfl
  c37 := by kernel_rfl
  c46 := by kernel_rfl
  c51 := by kernel_rfl
  c53 := by kernel_rfl
  c75 := by kernel_rfl
  c76 := by kernel_rfl
  c80 := by kernel_rfl
  c85 := by kernel_rfl
  c127 := by kernel_rfl
  c143 := by kernel_rfl
  c145 := by kernel_rfl
  c167 := by kernel_rfl
  c168 := by kernel_rfl
  c171 := by kernel_rfl
  c173 := by kernel_rfl
  c175 := by kernel_rfl
  c210 := by kernel_rfl
  c212 := by kernel_rfl
  c213 := by kernel_rfl
  c232 := by kernel_rfl
  c233 := by kernel_rfl }
def Tryz.lays143_ren : Go.Shelf.Ren := ⟨fun | 143 => 120 | 219 => 142 | 217 => 141 | 225 => 170 | 224 => 171 | 267 => 172 | 266 => 169 | 314 => 189 | n => n, fun | 9 => 9 | 3 => 3 | 4 => 4 | 5 => 5 | 46 => 209 | 146 => 221 | 51 => 220 | n => n, fun | 1 => 2 | n => n⟩
theorem Tryz.lays143 : Go.Proofs.Lays.n143 Tryz.prog Tryz.lays143_ren := {
  mixed := by kernel_rfl
  f143 := Tryz.func120.trans (congrArg some (by kernel_rfl))
  f217 := Tryz.func141.trans (congrArg some (by kernel_rfl))
  f219 := Tryz.func142.trans (congrArg some (by kernel_rfl))
  f224 := Tryz.func171.trans (congrArg some (by kernel_rfl))
  f225 := Tryz.func170.trans (congrArg some (by kernel_rfl))
  f266 := Tryz.func169.trans (congrArg some (by kernel_rfl))
  f267 := Tryz.func172.trans (congrArg some (by kernel_rfl))
  f314 := Tryz.func189.trans (congrArg some (by kernel_rfl))
  t3 := Tryz.underlying3
  a3 := Tryz.isAgg3
  z3 := Tryz.sizeOf3
  v3 := Tryz.zeroValue3
  t4 := Tryz.underlying4
  a4 := Tryz.isAgg4
  z4 := Tryz.sizeOf4
  v4 := Tryz.zeroValue4
  t5 := Tryz.underlying5
  a5 := Tryz.isAgg5
  z5 := Tryz.sizeOf5
  v5 := Tryz.zeroValue5
  t9 := Tryz.underlying9
  a9 := Tryz.isAgg9
  z9 := Tryz.sizeOf9
  v9 := Tryz.zeroValue9
  t46 := Tryz.underlying209
  a46 := Tryz.isAgg209
  z46 := Tryz.sizeOf209
  v46 := Tryz.zeroValue209
  t51 := Tryz.underlying220
  a51 := Tryz.isAgg220
  z51 := Tryz.sizeOf220
  v51 := Tryz.zeroValue220
  t146 := Tryz.underlying221
  a146 := Tryz.isAgg221
  z146 := Tryz.sizeOf221
  v146 := Tryz.zeroValue221
  g1 := by kernel_rfl }
open Go.RowKit Go.Lib in
theorem Tryz.strings_Index (s sub : ByteArray) (m : Int) (w : World) (hs : s.size < 4294967281) (hm : w.cell? ⟨2, 0, none⟩ = some (.int .i64 m)) :
    Calls Tryz.prog 120 #[.string s, .string sub] w fun e w' => e = .returned (.int .i64 (Lib.index s.data.toList sub.data.toList)) ∧ w' = w := Any.strings_Index Tryz.lays143 s sub m w hs hm
def Tryz.lays144_ren : Go.Shelf.Ren := ⟨fun | 144 => 196 | 143 => 120 | 219 => 142 | 217 => 141 | 225 => 170 | 224 => 171 | 267 => 172 | 266 => 169 | 314 => 189 | n => n, fun | 9 => 9 | 4 => 4 | 3 => 3 | 5 => 5 | 46 => 209 | 146 => 221 | 51 => 220 | n => n, fun | 1 => 2 | n => n⟩
theorem Tryz.lays144 : Go.Proofs.Lays.n144 Tryz.prog Tryz.lays144_ren := {
  mixed := by kernel_rfl
  f143 := Tryz.func120.trans (congrArg some (by kernel_rfl))
  f144 := Tryz.func196.trans (congrArg some (by kernel_rfl))
  f217 := Tryz.func141.trans (congrArg some (by kernel_rfl))
  f219 := Tryz.func142.trans (congrArg some (by kernel_rfl))
  f224 := Tryz.func171.trans (congrArg some (by kernel_rfl))
  f225 := Tryz.func170.trans (congrArg some (by kernel_rfl))
  f266 := Tryz.func169.trans (congrArg some (by kernel_rfl))
  f267 := Tryz.func172.trans (congrArg some (by kernel_rfl))
  f314 := Tryz.func189.trans (congrArg some (by kernel_rfl))
  t3 := Tryz.underlying3
  a3 := Tryz.isAgg3
  z3 := Tryz.sizeOf3
  v3 := Tryz.zeroValue3
  t4 := Tryz.underlying4
  a4 := Tryz.isAgg4
  z4 := Tryz.sizeOf4
  v4 := Tryz.zeroValue4
  t5 := Tryz.underlying5
  a5 := Tryz.isAgg5
  z5 := Tryz.sizeOf5
  v5 := Tryz.zeroValue5
  t9 := Tryz.underlying9
  a9 := Tryz.isAgg9
  z9 := Tryz.sizeOf9
  v9 := Tryz.zeroValue9
  t46 := Tryz.underlying209
  a46 := Tryz.isAgg209
  z46 := Tryz.sizeOf209
  v46 := Tryz.zeroValue209
  t51 := Tryz.underlying220
  a51 := Tryz.isAgg220
  z51 := Tryz.sizeOf220
  v51 := Tryz.zeroValue220
  t146 := Tryz.underlying221
  a146 := Tryz.isAgg221
  z146 := Tryz.sizeOf221
  v146 := Tryz.zeroValue221
  g1 := by kernel_rfl }
open Go.RowKit Go.Lib in
theorem Tryz.strings_Contains_one (s : ByteArray) (c : UInt8) (w : World) :
    Calls Tryz.prog 196 #[.string s, .string ⟨#[c]⟩] w fun e w' => e = .returned (.bool (decide (0 ≤ Lib.indexByte s.data.toList c))) ∧ w' = w := Any.strings_Contains_one Tryz.lays144 s c w
def Tryz.laysM143_ren : Go.Shelf.Ren := ⟨fun | 143 => 120 | 219 => 142 | 217 => 141 | 225 => 170 | 224 => 171 | 267 => 172 | 266 => 169 | 314 => 189 | n => n, fun | 9 => 9 | 3 => 3 | 4 => 4 | 5 => 5 | 46 => 209 | 146 => 221 | 51 => 220 | n => n, fun | 1 => 2 | n => n⟩
theorem Tryz.laysM143 : Go.Proofs.LaysM.n143 Tryz.prog Tryz.laysM143_ren := {
  mixed := by kernel_rfl
  f143 := Tryz.func120.trans (congrArg some (by kernel_rfl))
  f217 := Tryz.func141.trans (congrArg some (by kernel_rfl))
  f219 := Tryz.func142.trans (congrArg some (by kernel_rfl))
  f224 := Tryz.func171.trans (congrArg some (by kernel_rfl))
  f225 := Tryz.func170.trans (congrArg some (by kernel_rfl))
  f266 := Tryz.func169.trans (congrArg some (by kernel_rfl))
  f267 := Tryz.func172.trans (congrArg some (by kernel_rfl))
  f314 := Tryz.func189.trans (congrArg some (by kernel_rfl))
  t3 := Tryz.underlying3
  a3 := Tryz.isAgg3
  z3 := Tryz.sizeOf3
  v3 := Tryz.zeroValue3
  t4 := Tryz.underlying4
  a4 := Tryz.isAgg4
  z4 := Tryz.sizeOf4
  v4 := Tryz.zeroValue4
  t5 := Tryz.underlying5
  a5 := Tryz.isAgg5
  z5 := Tryz.sizeOf5
  v5 := Tryz.zeroValue5
  t9 := Tryz.underlying9
  a9 := Tryz.isAgg9
  z9 := Tryz.sizeOf9
  v9 := Tryz.zeroValue9
  t46 := Tryz.underlying209
  a46 := Tryz.isAgg209
  z46 := Tryz.sizeOf209
  v46 := Tryz.zeroValue209
  t51 := Tryz.underlying220
  a51 := Tryz.isAgg220
  z51 := Tryz.sizeOf220
  v51 := Tryz.zeroValue220
  t146 := Tryz.underlying221
  a146 := Tryz.isAgg221
  z146 := Tryz.sizeOf221
  v146 := Tryz.zeroValue221
  g1 := by kernel_rfl
  i3 := by kernel_rfl
  i4 := by kernel_rfl
  i5 := by kernel_rfl
  i9 := by kernel_rfl
  i46 := by kernel_rfl
  i51 := by kernel_rfl
  i146 := by kernel_rfl
  m1 := by kernel_rfl
  s1_3 := fun w h => Go.Proofs.cell_of_shapedOpen_int (zero := #[.int .i64 0]) (t := 3) h (of_decide_eq_true (by kernel_rfl)) (by kernel_rfl) rfl (by kernel_rfl) (by kernel_rfl) Tryz.underlying3 }
def Tryz.lays99_ren : Go.Shelf.Ren := ⟨fun | 99 => 95 | 206 => 118 | n => n, fun | 9 => 9 | 4 => 4 | 3 => 3 | n => n, fun | n => n⟩
theorem Tryz.lays99 : Go.Proofs.Lays.n99 Tryz.prog Tryz.lays99_ren := {
  mixed := by kernel_rfl
  f99 := Tryz.func95.trans (congrArg some (by kernel_rfl))
  f206 := Tryz.func118.trans (congrArg some (by kernel_rfl))
  t3 := Tryz.underlying3
  a3 := Tryz.isAgg3
  z3 := Tryz.sizeOf3
  v3 := Tryz.zeroValue3
  t4 := Tryz.underlying4
  a4 := Tryz.isAgg4
  z4 := Tryz.sizeOf4
  v4 := Tryz.zeroValue4
  t9 := Tryz.underlying9
  a9 := Tryz.isAgg9
  z9 := Tryz.sizeOf9
  v9 := Tryz.zeroValue9 }
open Go.RowKit Go.Lib in
theorem Tryz.strings_HasPrefix (s p : ByteArray) (w : World) :
    Calls Tryz.prog 95 #[.string s, .string p] w fun e w' => e = .returned (.bool (Lib.hasPrefix s.data.toList p.data.toList)) ∧ w' = w := Any.strings_HasPrefix Tryz.lays99 s p w
def Tryz.lays101_ren : Go.Shelf.Ren := ⟨fun | 101 => 173 | 208 => 190 | 206 => 118 | n => n, fun | 9 => 9 | 4 => 4 | 3 => 3 | n => n, fun | n => n⟩
theorem Tryz.lays101 : Go.Proofs.Lays.n101 Tryz.prog Tryz.lays101_ren := {
  mixed := by kernel_rfl
  f101 := Tryz.func173.trans (congrArg some (by kernel_rfl))
  f206 := Tryz.func118.trans (congrArg some (by kernel_rfl))
  f208 := Tryz.func190.trans (congrArg some (by kernel_rfl))
  t3 := Tryz.underlying3
  a3 := Tryz.isAgg3
  z3 := Tryz.sizeOf3
  v3 := Tryz.zeroValue3
  t4 := Tryz.underlying4
  a4 := Tryz.isAgg4
  z4 := Tryz.sizeOf4
  v4 := Tryz.zeroValue4
  t9 := Tryz.underlying9
  a9 := Tryz.isAgg9
  z9 := Tryz.sizeOf9
  v9 := Tryz.zeroValue9 }
open Go.RowKit Go.Lib in
theorem Tryz.strings_TrimPrefix (s p : ByteArray) (w : World) :
    Calls Tryz.prog 173 #[.string s, .string p] w fun e w' => e = .returned (.string ⟨(Lib.trimPrefix s.data.toList p.data.toList).toArray⟩) ∧ w' = w := Any.strings_TrimPrefix Tryz.lays101 s p w
open Go.RowKit in
theorem Tryz.atoi_ok (s : ByteArray) (hmax : s.size ≤ 9223372036854775806) (v : Int) (h : Lib.atoiAll s.data.toList = .ok v) (w : World) :
    Calls Tryz.prog 145 #[.string s] w fun e w' => e = .returned (.tuple #[.int .i64 v, .nilIface]) ∧ Below w.heap.size w w' := by
  refine (Any.strconv_Atoi_ok Tryz.laysC172 s hmax v h w).mono ?_
  rintro e w' ⟨rfl, h⟩
  refine ⟨rfl, ?_⟩
  rcases h with rfl | ⟨t, rfl⟩
  · exact Below.refl _ _
  · exact Lib.bytesWorld_below _ _ _
open Go.RowKit in
theorem Tryz.atoi_range (s : ByteArray) (hlim : s.size ≤ 281474976710656) (h : Lib.atoiAll s.data.toList = .range) (tp : TypeId) (p : Value) (w : World) (hvar : w.var? Tryz.prog "strconv.ErrRange" = some #[.iface tp p]) :
    Calls Tryz.prog 145 #[.string s] w fun e w' => (∃ N, e = .returned (.tuple #[.int .i64 (Lib.atoiSat s.data.toList), .iface 226 (.pointer (some ⟨N, 0, none⟩))])) ∧ Below w.heap.size w w' := by
  refine (Any.strconv_Atoi_range_var Tryz.laysC172 s hlim h tp p w hvar).mono ?_
  rintro e w' ⟨N, rfl, _, _, h⟩
  exact ⟨⟨N, rfl⟩, h⟩
end Go.Proofs
namespace Go.Proofs.YtjebglmpopijhaaGreatDoor
section
open Go.RowKit
theorem Qen (s : ByteArray) (a : Int) (k : Nat) (t : ByteArray) (b : Bool) (ha : a = (k : Int)) (hb : pre t.data.toList (s.data.toList.drop k) = b) (hk : k ≤ s.size) (hs : s.size ≤ 140737488355328) (ht : t.size ≤ 1000) (w : World) :
    Calls Tryz.prog 83 #[.string s, .int .i64 a, .string t] w fun e w' => e = .returned (.bool b) ∧ w' = w := by
  subst ha hb
  exact at_any s k t hk hs ht w
theorem Qey (s : ByteArray) (a : Int) (k n : Nat) (ha : a = (k : Int)) (hn : wdLen (s.data.toList.drop k) = n) (hk : k ≤ s.size) (hs : s.size ≤ 140737488355328) (w : World) :
    Calls Tryz.prog 84 #[.string s, .int .i64 a] w fun e w' => e = .returned (.int .i64 (n : Int)) ∧ w' = w := by
  subst ha hn
  exact Qjn s k hk hs w

theorem pre1 {c : UInt8} {r : Txt} : pre [c] r = true ↔ ∃ t, r = c :: t := by
  unfold pre Lib.hasPrefix
  cases r with
  | nil => simp
  | cons d u =>
    simp only [List.isPrefixOf, Bool.and_true, beq_iff_eq]
    constructor
    · rintro rfl; exact ⟨u, rfl⟩
    · rintro ⟨t, h⟩; injection h with h _; exact h.symm
theorem Qkr {s : ByteArray} {k : Nat} {c : UInt8} (h : pre [c] (s.data.toList.drop k) = true) : ∃ hk : k < s.size, s[k] = c := by
  obtain ⟨t, ht⟩ := pre1.1 h
  by_cases hk : k < s.size
  · rw [Qaj s k hk] at ht
    exact ⟨hk, by injection ht⟩
  · rw [Qbi s k (by omega)] at ht
    cases ht

def rnm (r : Txt) : Nat := if wdLen r = 0 then 0 else nmLen r
def rnmAt (s : ByteArray) (k n : Nat) : Nat := if n = 0 then 0 else n + nmLen (s.data.toList.drop (k + n))
theorem Qqi (s : ByteArray) (k : Nat) : rnm (s.data.toList.drop k) = rnmAt s k (wdLen (s.data.toList.drop k)) := by
  unfold rnm rnmAt
  split
  · rfl
  · rw [nm_wd (by omega), List.drop_drop]
theorem Qpt {s : ByteArray} {k : Nat} (h : ¬ wdLen (s.data.toList.drop k) = 0) : noW (s.data.toList.drop (k + wdLen (s.data.toList.drop k))) = true := by
  rw [← List.drop_drop]; exact Qtl (by omega)
theorem rnm_go {s : ByteArray} {k n : Nat} (h0 : 0 < n) (hp : pre [46] (s.data.toList.drop (k + n)) = true) (hw : 0 < wdLen (s.data.toList.drop (k + n + 1))) :
    rnmAt s k n = rnmAt s k (n + (1 + wdLen (s.data.toList.drop (k + n + 1)))) ∧ noW (s.data.toList.drop (k + (n + (1 + wdLen (s.data.toList.drop (k + n + 1)))))) = true := by
  obtain ⟨hlt, hc⟩ := Qkr hp
  have e : s.data.toList.drop (k + n) = 46 :: s.data.toList.drop (k + n + 1) := by rw [Qaj s _ hlt, hc]
  have e2 : k + (n + (1 + wdLen (s.data.toList.drop (k + n + 1)))) = (k + n + 1) + wdLen (s.data.toList.drop (k + n + 1)) := by omega
  unfold rnmAt
  rw [if_neg (by omega), if_neg (by omega), e, nm_go hw, e2, ← List.drop_drop (i := wdLen (s.data.toList.drop (k + n + 1))) (j := k + n + 1)]
  exact ⟨by omega, Qtl hw⟩
theorem Qqh {s : ByteArray} {k n : Nat} (hn : noW (s.data.toList.drop (k + n)) = true) (h : pre [46] (s.data.toList.drop (k + n)) = true → wdLen (s.data.toList.drop (k + n + 1)) = 0) : rnmAt s k n = n := by
  unfold rnmAt
  split
  · omega
  · rw [nm_end hn]; · omega
    intro t ht
    have hp : pre [46] (s.data.toList.drop (k + n)) = true := pre1.2 ⟨t, ht⟩
    obtain ⟨hlt, _⟩ := Qkr hp
    have := h hp
    rw [Qaj s _ hlt] at ht
    injection ht with _ h2
    rw [← h2]; exact this
theorem Qrm (s : ByteArray) (k : Nat) (hk : k ≤ s.size) : k + wdLen (s.data.toList.drop k) ≤ s.size := by
  have := wd_le (s.data.toList.drop k)
  rw [Qaw] at this
  omega

def RNm (s : ByteArray) (k n : Nat) : Prop := k + n ≤ s.size ∧ rnm (s.data.toList.drop k) = rnmAt s k n ∧ (n = 0 ∨ noW (s.data.toList.drop (k + n)) = true)

theorem Qqg (s : ByteArray) (k : Nat) (hk : k ≤ s.size) (hs : s.size ≤ 140737488355328) (w : World) :
    Calls Tryz.prog 42 #[.string s, .int .i64 (k : Int)] w fun e w' => e = .returned (.int .i64 (rnm (s.data.toList.drop k) : Int)) ∧ w' = w := by
  obtain ⟨n0, hn0⟩ : ∃ n, wdLen (s.data.toList.drop k) = n := ⟨_, rfl⟩
  have HB : Hid (RNm s k n0) := by
    refine hide ⟨by rw [← hn0]; exact Qrm s k hk, by rw [← hn0]; exact Qqi s k, ?_⟩
    by_cases h : n0 = 0
    · exact .inl h
    · exact .inr (by rw [← hn0]; exact Qpt (by rw [hn0]; exact h))
  have H0 := hide hn0
  clear hn0
  go_enter Tryz.func42, Tryz.ntmps42
  go_wp2_with (go_at_call 84; refine (Qey s _ k n0 rfl (Qa H0) hk hs _).mono ?_; rintro e w' ⟨rfl, rfl⟩)
  go_loop [5] (fun i => ∃ n : Nat, i = .int .i64 (n : Int) ∧ Hid (RNm s k n)) (fun i => s.size - (intOf i).toNat)
  case atStart => exact ⟨n0, rfl, HB⟩
  obtain ⟨n, rfl, HH⟩ := hrel
  have hle := (Qa HH).1
  by_cases h0 : 0 < n
  · cases hp : pre [46] (s.data.toList.drop (k + n)) with
    | true =>
      obtain ⟨hlt, hc⟩ := Qkr hp
      clear hc
      obtain ⟨m, hm⟩ : ∃ m, wdLen (s.data.toList.drop (k + n + 1)) = m := ⟨_, rfl⟩
      have HM := hide hm
      have hbd := Qrm s (k + n + 1) (by omega)
      rw [hm] at hbd
      have HP := hide hp
      clear hm hp
      by_cases hw : 0 < m
      · go_wp2_with (first
          | (go_at_call 83; refine (Qen s _ (k + n) ⟨#[46]⟩ true (by omega) (Qa HP) (by omega) hs (by decide) _).mono ?_; rintro e w' ⟨rfl, rfl⟩)
          | (go_at_call 84; refine (Qey s _ (k + n + 1) m (by omega) (Qa HM) (by omega) hs _).mono ?_; rintro e w' ⟨rfl, rfl⟩))
        go_round
        case rel =>
          have hh := Qa HH
          have hg := rnm_go h0 (Qa HP) (by rw [Qa HM]; exact hw)
          rw [Qa HM] at hg
          exact ⟨n + (1 + m), by go_num, hide ⟨by omega, hh.2.1.trans hg.1, .inr hg.2⟩⟩
        case measure => simp [intOf]; omega
      · go_wp2_with (first
          | (go_at_call 83; refine (Qen s _ (k + n) ⟨#[46]⟩ true (by omega) (Qa HP) (by omega) hs (by decide) _).mono ?_; rintro e w' ⟨rfl, rfl⟩)
          | (go_at_call 84; refine (Qey s _ (k + n + 1) m (by omega) (Qa HM) (by omega) hs _).mono ?_; rintro e w' ⟨rfl, rfl⟩))
        go_ret
        have hh := Qa HH
        have hno : noW (s.data.toList.drop (k + n)) = true := by
          rcases hh.2.2 with h | h
          · omega
          · exact h
        exact ⟨Qax (by rw [hh.2.1, Qqh hno (fun _ => by rw [Qa HM]; omega)]), rfl⟩
    | false =>
      have HP := hide hp
      clear hp
      go_wp2_with (go_at_call 83; refine (Qen s _ (k + n) ⟨#[46]⟩ false (by omega) (Qa HP) (by omega) hs (by decide) _).mono ?_; rintro e w' ⟨rfl, rfl⟩)
      go_ret
      have hh := Qa HH
      have hno : noW (s.data.toList.drop (k + n)) = true := by
        rcases hh.2.2 with h | h
        · omega
        · exact h
      exact ⟨Qax (by rw [hh.2.1, Qqh hno (fun h => by rw [Qa HP] at h; cases h)]), rfl⟩
  · go_wp2
    go_ret
    have hh := Qa HH
    have e0 : n = 0 := by omega
    subst e0
    exact ⟨Qax (by rw [hh.2.1]; rfl), rfl⟩

def nameP (l : Txt) : Bool := decide (l ≠ []) && decide (l.length ≤ 64) && decide (wdLen l ≠ 0) && decide (nmLen l = l.length)
theorem Qbb (s : ByteArray) : s.size = s.data.toList.length := by rw [Array.length_toList]; rfl
theorem Qdy {s : ByteArray} (h : 0 < s.size) : s.data.toList = s[0] :: s.data.toList.drop 1 := by
  have := Qaj s 0 h
  rwa [List.drop_zero] at this
theorem Qfw {s : ByteArray} (h : ¬ 0 < s.size) : s = ⟨#[]⟩ := ByteArray.ext (Array.eq_empty_of_size_eq_zero (by have : s.size = s.data.size := rfl; omega))



theorem Qtu (s : ByteArray) (hs : s.size ≤ 140737488355328) (w : World) :
    Calls Tryz.prog 84 #[.string s, .int .i64 0] w fun e w' => e = .returned (.int .i64 (wdLen s.data.toList : Int)) ∧ w' = w := by
  have := Qjn s 0 (Nat.zero_le _) hs w
  rw [List.drop_zero] at this
  exact this
def wordP (l : Txt) : Bool := decide (l ≠ []) && decide (wdLen l = l.length) && decide (l.length ≤ 64)
theorem Qqe (s : ByteArray) (hs : s.size ≤ 140737488355328) (w : World) :
    Calls Tryz.prog 88 #[.string s] w fun e w' => e = .returned (.bool (wordP s.data.toList)) ∧ w' = w := by
  by_cases h0 : 0 < s.size
  · have hne : s.toList.isEmpty = false := by rw [Lib.toList_data, Qdy h0]; rfl
    have H := hide (show wordP s.data.toList = (decide (wdLen s.data.toList = s.size) && decide (s.size ≤ 64)) by
      unfold wordP; rw [decide_eq_true (by rw [Qdy h0]; simp), ← Qbb, Bool.true_and])
    go_enter Tryz.func88, Tryz.ntmps88
    by_cases he : wdLen s.data.toList = s.size
    · have he2 : ((wdLen s.data.toList : Int) == (s.size : Int)) = true := by rw [beq_iff_eq, he]
      have HE := hide he
      clear he
      go_wp2_with (go_at_call 84; refine (Qtu s hs _).mono ?_; rintro e w' ⟨rfl, rfl⟩)
      go_ret
      refine ⟨Qbk ?_, rfl⟩
      rw [Qa H, decide_eq_true (Qa HE), Bool.true_and, Bool.eq_iff_iff]
      simp <;> omega
    · have he2 : ((wdLen s.data.toList : Int) == (s.size : Int)) = false := by rw [beq_eq_false_iff_ne]; omega
      have HE := hide he
      clear he
      go_wp2_with (go_at_call 84; refine (Qtu s hs _).mono ?_; rintro e w' ⟨rfl, rfl⟩)
      go_ret
      exact ⟨Qbk (by rw [Qa H, decide_eq_false (Qa HE)]; rfl), rfl⟩
  · have e := Qfw h0
    subst e
    go_enter Tryz.func88, Tryz.ntmps88
    go_wp2
    go_ret
    exact ⟨rfl, rfl⟩
end
end Go.Proofs.YtjebglmpopijhaaGreatDoor
