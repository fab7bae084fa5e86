/-
  Texts of this claim put behind one another: GoodText, ZJoinMath, Shelf2, ZReadShelf, Atoi, Handed, LaidZ, LawFnZRead.
-/
import Derived.Test.YtnkhgppfnkglfaaGreatDoorDrawZ
import Derived.Test.YtnkhgppfnkglfaaGreatDoorZTextMath
import Derived.Test.YtnkhgppfnkglfaaGreatDoorZReadMath
import Derived.Test.YtnkhgppfnkglfaaGreatDoorZFacts
import Derived.Shelf.Strings.Builder1
import Derived.Shelf.Strings.BuilderF
import Derived.Shelf.Strings.BuilderK
import Derived.Shelf.Utf8.RuneCount
import Derived.Shelf.Strconv.Atoi
import Derived.Shelf.Strconv.Itoa0
import Derived.Shelf.Strconv.Itoa1
import Derived.Shelf.LaysM
import Derived.Shelf.Strconv.Itoa2
import Derived.Shelf.Strconv.Itoa3
import Derived.Shelf.Strconv.AtoiErrFast
import Derived.Shelf.Strconv.ParseIntEmpty
import Derived.Shelf.Strconv.AtoiFail
import Derived.Shelf.Strconv.Clone
import Derived.Shelf.Strconv.SyntaxError
import Derived.Shelf.LaysC
import Derived.Shelf.Strconv.ToError
import Derived.Shelf.Strconv.Lower
import Derived.Shelf.Strconv.ParseUint10
import Derived.Shelf.Strconv.ParseUint10Empty
import Derived.Shelf.Strconv.ParseUint10Any
import Derived.Shelf.Strconv.ParseInt10
import Derived.Shelf.Strconv.AtoiLong
import Derived.Shelf.Strconv.AtoiInnerAll
import Derived.Shelf.Strconv.RangeError
import Derived.Shelf.Strconv.ToErrorRange
import Derived.Shelf.Strconv.AtoiAll
import Derived.Shelf.Strconv.ErrVarAll
import Derived.Shelf.Strings.Search1
import Derived.Shelf.Strings.Search2
import Derived.Shelf.Strings.Search3
import Derived.Shelf.Strings.Cut
import Derived.Shelf.Strings.Count
import Derived.Shelf.Strings.Shaped
import Derived.Shelf.Strings.Split
import Derived.Shelf.Strings.SplitShaped
import Derived.Shelf.Unicode.Decode
import Derived.Shelf.Strings.RuneCount
import Derived.Shelf.Strings.Explode
import Derived.Shelf.Unicode.DecodeSlow
import Derived.Shelf.Unicode.DecodeAny
import Derived.Shelf.Strings.BuilderCap
import Derived.Ground.Names2Prog
import Derived.Shelf.Slices.Clone
import Derived.Ground.SlgnProg
import Derived.Shelf.SlicesE.Clone
import Derived.Test.YtnkhgppfnkglfaaGreatDoorProg
import Derived.Test.YtnkhgppfnkglfaaGreatDoorZReadScan
import Derived.Test.YtnkhgppfnkglfaaGreatDoorAtoiEnd
import Derived.Test.YtnkhgppfnkglfaaGreatDoorBase
import Derived.Handed
import Derived.Shelf.Vars
import Derived.Stop.LaidErr
import Derived.Test.YtnkhgppfnkglfaaGreatDoorZVals
import Derived.Test.YtnkhgppfnkglfaaGreatDoorOrderFacts

/-
  Drawn items: their text can be told, and how long it is at most.
-/
namespace Go.Proofs.YtnkhgppfnkglfaaGreatDoor

theorem GoodZ.wfz {zs : List It} (h : GoodZ zs) : WfZ zs := fun p hp => by
  obtain ⟨_, h2, h3, h4⟩ := h.2 p hp
  exact ⟨h2.wf, by omega, by omega⟩
theorem rows_seven : ∀ {zs : List It}, (∀ p ∈ zs, p.1.length ≤ 7) → rowsLen zs ≤ 7 * zs.length
  | [], _ => by simp [rowsLen]
  | p :: zs, h => by
    have h2 : rowsLen (p :: zs) = p.1.length + rowsLen zs := by simp [rowsLen]
    have h3 := h p (by simp)
    have h4 := rows_seven (zs := zs) fun q hq => h q (by simp [hq])
    rw [h2, List.length_cons]
    omega
theorem GoodZ.room {zs : List It} (h : GoodZ zs) : zs.length + rowsLen zs ≤ 1048576 := by
  have h1 := h.1
  have h2 := rows_seven fun p hp => (h.2 p hp).1
  omega
theorem GoodZ.text {zs : List It} (h : GoodZ zs) : (zTx zs).length ≤ 40000 := by
  have h0 := h.1
  have h1 := zTx_le zs h.wfz
  have h2 := rows_seven fun p hp => (h.2 p hp).1
  omega

end Go.Proofs.YtnkhgppfnkglfaaGreatDoor

/-
  Two texts of items with a blank between: it is read just if the one's last row is ahead of the other's first and there are not too many, and then as both put together.
-/
namespace Go.Proofs.YtnkhgppfnkglfaaGreatDoor

theorem itemTx_len {p : It} (h : okIt p) : (itemTx p).length ≤ 84 := by
  have h1 := row_len h.1
  have h2 := itoa_len (wB_cell h.2)
  simp only [itemTx, List.length_append, List.length_cons]
  omega
theorem zTail_len : ∀ {zs : List It}, (∀ p ∈ zs, okIt p) → (zTail zs).length ≤ 85 * zs.length
  | [], _ => by simp [zTail]
  | p :: zs, h => by
    have h1 := itemTx_len (h p (by simp))
    have h2 := zTail_len (zs := zs) fun q hq => h q (by simp [hq])
    simp only [zTail, List.length_append, List.length_cons]
    omega
theorem zTx_len {zs : List It} (h : zOkB zs = true) : (zTx zs).length ≤ 9000 := by
  have hl := zOk_le h
  have ho := zOk_okIt h
  cases zs with
  | nil => simp [zTx]
  | cons p zs =>
    have h1 := itemTx_len (ho p (by simp))
    have h2 := zTail_len (zs := zs) fun q hq => ho q (by simp [hq])
    simp only [zTx, List.length_append]
    simp only [List.length_cons] at hl
    omega
theorem zTail_app : ∀ (a b : List It), zTail (a ++ b) = zTail a ++ zTail b
  | [], b => by simp [zTail]
  | p :: a, b => by simp [zTail, zTail_app a b]
theorem zTx_join {a b : List It} (ha : a ≠ []) (hb : b ≠ []) : zTx (a ++ b) = zTx a ++ 32 :: zTx b := by
  match a, b, ha, hb with
  | p :: a, q :: b, _, _ => simp [zTx, zTail_app, zTail]
theorem getZ_app {q : List Int} : ∀ {a b : List It}, Srt (a ++ b) → getZ (a ++ b) q = getZ a q + getZ b q
  | [], b, _ => by simp [getZ_nil]
  | x :: a, b, h => by
    rw [List.cons_append] at h
    obtain ⟨h1, h2⟩ := Srt.cons.1 h
    rw [List.cons_append, getZ_cons, getZ_cons, getZ_app h2]
    by_cases hx : x.1 = q
    · have h0 : getZ b q = 0 := getZ_zero fun p hp e => by
        have := ordL_ne (h1 p (by simp [hp]))
        exact this (hx.trans e.symm)
      simp [hx, h0]
    · simp [hx]
theorem add_app {a b : List It} (h : zOkB (a ++ b) = true) (ha : zOkB a = true) (hb : zOkB b = true) : addZ a b = a ++ b :=
  canon (srt_add (zOk_srt ha)) (nz_add (zOk_nz ha)) (zOk_srt h) (zOk_nz h) fun q => by rw [getZ_add (zOk_srt ha) (zOk_srt hb), getZ_app (zOk_srt h)]
theorem getD_left {a b : List It} {j : Nat} (h : j < a.length) : (a ++ b).getD j ([], 0) = a.getD j ([], 0) := by
  simp [List.getD, List.getElem?_append, h]
theorem getD_right {a b : List It} {j : Nat} (h : a.length ≤ j) : (a ++ b).getD j ([], 0) = b.getD (j - a.length) ([], 0) := by
  simp [List.getD, List.getElem?_append, Nat.not_lt.2 h]
theorem zOk_at {zs : List It} (h : zOkB zs = true) {j : Nat} (hj : j < zs.length) : stepB zs j = true := by
  unfold zOkB at h
  simp only [Bool.and_eq_true, List.all_eq_true] at h
  exact h.2 j (List.mem_range.2 hj)
/-- Both put behind each other are right just if they are not too many and the one's last row is ahead of the other's first. -/
theorem ok_app {a b : List It} (ha : zOkB a = true) (hb : zOkB b = true) (ha0 : a ≠ []) (hb0 : b ≠ []) :
    zOkB (a ++ b) = (rowLessB (a.getD (a.length - 1) ([], 0)).1 (b.getD 0 ([], 0)).1 && decide (a.length + b.length ≤ 100)) := by
  have hal : 0 < a.length := List.length_pos_iff.2 ha0
  have hbl : 0 < b.length := List.length_pos_iff.2 hb0
  have hseam : stepB (a ++ b) a.length = (rowOkB (b.getD 0 ([], 0)).1 && wB (b.getD 0 ([], 0)).2 && rowLessB (a.getD (a.length - 1) ([], 0)).1 (b.getD 0 ([], 0)).1) := by
    unfold stepB
    rw [getD_right (Nat.le_refl _), Nat.sub_self, getD_left (by omega)]
    simp [show ¬ a.length = 0 by omega]
  have hb1 := zOk_at hb hbl
  have hb2 : rowOkB (b.getD 0 ([], 0)).1 = true ∧ wB (b.getD 0 ([], 0)).2 = true := by
    unfold stepB at hb1
    simp only [Bool.and_eq_true] at hb1
    exact hb1.1
  rw [hb2.1, hb2.2] at hseam
  by_cases hl : a.length + b.length ≤ 100
  · cases hr : rowLessB (a.getD (a.length - 1) ([], 0)).1 (b.getD 0 ([], 0)).1
    · rw [hr] at hseam
      simp [zOk_miss (zs := a ++ b) (k := a.length) (by rw [List.length_append]; omega) (by rw [hseam]; rfl)]
    · rw [hr] at hseam
      simp only [hl, decide_true, Bool.and_true]
      refine zOk_all (by rw [List.length_append]; exact hl) fun j hj => ?_
      rw [List.length_append] at hj
      rcases Nat.lt_trichotomy j a.length with h | h | h
      · have := zOk_at ha h
        unfold stepB at this ⊢
        rw [getD_left h, getD_left (by omega)]
        exact this
      · subst h
        rw [hseam]; rfl
      · have := zOk_at hb (j := j - a.length) (by omega)
        unfold stepB at this ⊢
        rw [getD_right (by omega), getD_right (by omega), show j - 1 - a.length = j - a.length - 1 by omega]
        simp only [Bool.and_eq_true, Bool.or_eq_true, decide_eq_true_eq] at this ⊢
        refine ⟨this.1, .inr ?_⟩
        rcases this.2 with h2 | h2
        · omega
        · exact h2
  · simp [zOk_len (zs := a ++ b) (by rw [List.length_append]; exact hl), hl]
theorem read_app {a b : List It} (ha : zOkB a = true) (hb : zOkB b = true) (ha0 : a ≠ []) (hb0 : b ≠ []) :
    readZ (zTx a ++ 32 :: zTx b) = if zOkB (a ++ b) = true then some (a ++ b) else none := by
  rw [← zTx_join ha0 hb0]
  split
  · rename_i h
    exact readZ_items h (zTx_len h)
  · rename_i h
    cases hr : readZ (zTx (a ++ b)) with
    | none => rfl
    | some ys =>
      obtain ⟨h1, h2, _⟩ := readZ_back hr
      have h3 : a ++ b = ys := zTx_inj (fun p hp => by
        rcases List.mem_append.1 hp with h | h
        · exact zOk_okIt ha p h
        · exact zOk_okIt hb p h) (zOk_okIt h1) h2
      rw [h3] at h
      exact absurd h1 h

end Go.Proofs.YtnkhgppfnkglfaaGreatDoor

/-
  Contracts of the library at this program, laid by the kit's own tools (lay-shelf, lay-plain): strings_Split, strings_Cut, strconv_Atoi_ok, strconv_Atoi_syntax_var, strconv_Atoi_range_var.
-/
namespace Go.Proofs
open Go.Shelf
def Tryz.laysC172_ren : Go.Shelf.Ren := ⟨fun | 172 => 40 | 244 => 57 | 245 => 58 | 247 => 68 | 279 => 69 | 280 => 70 | 281 => 71 | 282 => 72 | 287 => 81 | 316 => 82 | 171 => 43 | 205 => 83 | 321 => 91 | 322 => 92 | 243 => 60 | 246 => 73 | 283 => 84 | 284 => 85 | 285 => 86 | 286 => 87 | 129 => 94 | 317 => 93 | 318 => 95 | 319 => 96 | 320 => 97 | 337 => 98 | 338 => 99 | n => n, fun | 9 => 9 | 3 => 3 | 75 => 46 | 76 => 48 | 4 => 4 | 5 => 5 | 167 => 91 | 37 => 22 | 0 => 0 | 85 => 92 | 2 => 2 | 168 => 94 | 53 => 103 | 175 => 104 | 46 => 102 | 210 => 108 | 127 => 73 | 145 => 122 | 143 => 120 | 21 => 21 | 171 => 110 | 173 => 113 | 212 => 124 | 51 => 115 | 20 => 20 | 213 => 125 | 232 => 132 | 233 => 133 | 80 => 51 | n => n, fun | 15 => 1 | 16 => 2 | 17 => 3 | 18 => 6 | 19 => 7 | n => n⟩
theorem Tryz.laysC172 : Go.Proofs.LaysC.n172 Tryz.prog Tryz.laysC172_ren := {
  mixed := by kernel_rfl
  f129 := Tryz.func94.trans (congrArg some (by kernel_rfl))
  f171 := Tryz.func43.trans (congrArg some (by kernel_rfl))
  f172 := Tryz.func40.trans (congrArg some (by kernel_rfl))
  f205 := Tryz.func83.trans (congrArg some (by kernel_rfl))
  f243 := Tryz.func60.trans (congrArg some (by kernel_rfl))
  f244 := Tryz.func57.trans (congrArg some (by kernel_rfl))
  f245 := Tryz.func58.trans (congrArg some (by kernel_rfl))
  f246 := Tryz.func73.trans (congrArg some (by kernel_rfl))
  f247 := Tryz.func68.trans (congrArg some (by kernel_rfl))
  f279 := Tryz.func69.trans (congrArg some (by kernel_rfl))
  f280 := Tryz.func70.trans (congrArg some (by kernel_rfl))
  f281 := Tryz.func71.trans (congrArg some (by kernel_rfl))
  f282 := Tryz.func72.trans (congrArg some (by kernel_rfl))
  f283 := Tryz.func84.trans (congrArg some (by kernel_rfl))
  f284 := Tryz.func85.trans (congrArg some (by kernel_rfl))
  f285 := Tryz.func86.trans (congrArg some (by kernel_rfl))
  f286 := Tryz.func87.trans (congrArg some (by kernel_rfl))
  f287 := Tryz.func81.trans (congrArg some (by kernel_rfl))
  f316 := Tryz.func82.trans (congrArg some (by kernel_rfl))
  f317 := Tryz.func93.trans (congrArg some (by kernel_rfl))
  f318 := Tryz.func95.trans (congrArg some (by kernel_rfl))
  f319 := Tryz.func96.trans (congrArg some (by kernel_rfl))
  f320 := Tryz.func97.trans (congrArg some (by kernel_rfl))
  f321 := Tryz.func91.trans (congrArg some (by kernel_rfl))
  f322 := Tryz.func92.trans (congrArg some (by kernel_rfl))
  f337 := Tryz.func98.trans (congrArg some (by kernel_rfl))
  f338 := Tryz.func99.trans (congrArg some (by kernel_rfl))
  t0 := Tryz.underlying0
  a0 := Tryz.isAgg0
  z0 := Tryz.sizeOf0
  v0 := Tryz.zeroValue0
  t2 := Tryz.underlying2
  a2 := Tryz.isAgg2
  z2 := Tryz.sizeOf2
  v2 := Tryz.zeroValue2
  t3 := Tryz.underlying3
  a3 := Tryz.isAgg3
  z3 := Tryz.sizeOf3
  v3 := Tryz.zeroValue3
  t4 := Tryz.underlying4
  a4 := Tryz.isAgg4
  z4 := Tryz.sizeOf4
  v4 := Tryz.zeroValue4
  t5 := Tryz.underlying5
  a5 := Tryz.isAgg5
  z5 := Tryz.sizeOf5
  v5 := Tryz.zeroValue5
  t9 := Tryz.underlying9
  a9 := Tryz.isAgg9
  z9 := Tryz.sizeOf9
  v9 := Tryz.zeroValue9
  t20 := Tryz.underlying20
  a20 := Tryz.isAgg20
  z20 := Tryz.sizeOf20
  v20 := Tryz.zeroValue20
  t21 := Tryz.underlying21
  a21 := Tryz.isAgg21
  z21 := Tryz.sizeOf21
  v21 := Tryz.zeroValue21
  t37 := Tryz.underlying22
  a37 := Tryz.isAgg22
  z37 := Tryz.sizeOf22
  v37 := Tryz.zeroValue22
  t46 := Tryz.underlying102
  a46 := Tryz.isAgg102
  z46 := Tryz.sizeOf102
  v46 := Tryz.zeroValue102
  t51 := Tryz.underlying115
  a51 := Tryz.isAgg115
  z51 := Tryz.sizeOf115
  v51 := Tryz.zeroValue115
  t53 := Tryz.underlying103
  a53 := Tryz.isAgg103
  z53 := Tryz.sizeOf103
  v53 := Tryz.zeroValue103
  t75 := Tryz.underlying46
  a75 := Tryz.isAgg46
  z75 := Tryz.sizeOf46
  v75 := Tryz.zeroValue46
  t76 := Tryz.underlying48
  a76 := Tryz.isAgg48
  z76 := Tryz.sizeOf48
  v76 := Tryz.zeroValue48
  t85 := Tryz.underlying92
  a85 := Tryz.isAgg92
  z85 := Tryz.sizeOf92
  v85 := Tryz.zeroValue92
  t127 := Tryz.underlying73
  a127 := Tryz.isAgg73
  z127 := Tryz.sizeOf73
  v127 := Tryz.zeroValue73
  t143 := Tryz.underlying120
  a143 := Tryz.isAgg120
  z143 := Tryz.sizeOf120
  v143 := Tryz.zeroValue120
  t145 := Tryz.underlying122
  a145 := Tryz.isAgg122
  z145 := Tryz.sizeOf122
  v145 := Tryz.zeroValue122
  t167 := Tryz.underlying91
  a167 := Tryz.isAgg91
  z167 := Tryz.sizeOf91
  v167 := Tryz.zeroValue91
  t168 := Tryz.underlying94
  a168 := Tryz.isAgg94
  z168 := Tryz.sizeOf94
  v168 := Tryz.zeroValue94
  t171 := Tryz.underlying110
  a171 := Tryz.isAgg110
  z171 := Tryz.sizeOf110
  v171 := Tryz.zeroValue110
  t173 := Tryz.underlying113
  a173 := Tryz.isAgg113
  z173 := Tryz.sizeOf113
  v173 := Tryz.zeroValue113
  t175 := Tryz.underlying104
  a175 := Tryz.isAgg104
  z175 := Tryz.sizeOf104
  v175 := Tryz.zeroValue104
  t210 := Tryz.underlying108
  a210 := Tryz.isAgg108
  z210 := Tryz.sizeOf108
  v210 := Tryz.zeroValue108
  t212 := Tryz.underlying124
  a212 := Tryz.isAgg124
  z212 := Tryz.sizeOf124
  v212 := Tryz.zeroValue124
  t213 := Tryz.underlying125
  a213 := Tryz.isAgg125
  z213 := Tryz.sizeOf125
  t232 := Tryz.underlying132
  a232 := Tryz.isAgg132
  z232 := Tryz.sizeOf132
  v232 := Tryz.zeroValue132
  t233 := Tryz.underlying133
  a233 := Tryz.isAgg133
  z233 := Tryz.sizeOf133
  v233 := Tryz.zeroValue133
  g15 := by kernel_rfl
  g16 := by kernel_rfl
  g17 := by kernel_rfl
  g18 := by kernel_rfl
  g19 := by kernel_rfl
  t80 := Tryz.underlying51
  a80 := Tryz.isAgg51
  z80 := Tryz.sizeOf51
  v80 := Tryz.zeroValue51
  i0 := by kernel_rfl
  i2 := by kernel_rfl
  i3 := by kernel_rfl
  i4 := by kernel_rfl
  i5 := by kernel_rfl
  i9 := by kernel_rfl
  i20 := by kernel_rfl
  i21 := by kernel_rfl
  i37 := by kernel_rfl
  i46 := by kernel_rfl
  i51 := by kernel_rfl
  i53 := by kernel_rfl
  i75 := by kernel_rfl
  i76 := by kernel_rfl
  i80 := by kernel_rfl
  i85 := by kernel_rfl
  i127 := by kernel_rfl
  i143 := by kernel_rfl
  i145 := by kernel_rfl
  i167 := by kernel_rfl
  i168 := by kernel_rfl
  i171 := by kernel_rfl
  i173 := by kernel_rfl
  i175 := by kernel_rfl
  i210 := by kernel_rfl
  i212 := by kernel_rfl
  i232 := by kernel_rfl
  i233 := by kernel_rfl
  m15 := by kernel_rfl
  m16 := by kernel_rfl
  m17 := by kernel_rfl
  m18 := by kernel_rfl
  m19 := by kernel_rfl
  c0 := by kernel_rfl
  c2 := by kernel_rfl
  c3 := by kernel_rfl
  c4 := by kernel_rfl
  c5 := by kernel_rfl
  c9 := by kernel_rfl
  c20 := by kernel_rfl
  c21 := by kernel_rfl
  c37 := by kernel_rfl
  c46 := by kernel_rfl
  c51 := by kernel_rfl
  c53 := by kernel_rfl
  c75 := by kernel_rfl
  c76 := by kernel_rfl
  c80 := by kernel_rfl
  c85 := by kernel_rfl
  c127 := by kernel_rfl
  c143 := by kernel_rfl
  c145 := by kernel_rfl
  c167 := by kernel_rfl
  c168 := by kernel_rfl
  c171 := by kernel_rfl
  c173 := by kernel_rfl
  c175 := by kernel_rfl
  c210 := by kernel_rfl
  c212 := by kernel_rfl
  c213 := by kernel_rfl
  c232 := by kernel_rfl
  c233 := by kernel_rfl }
open Go.RowKit in
theorem Tryz.strconv_Atoi_ok (s : ByteArray) (hmax : s.size ≤ 9223372036854775806) (v : Int) (h : Lib.atoiAll s.data.toList = .ok v) (w : World) :
    Calls Tryz.prog 40 #[.string s] w fun e w' => e = .returned (.tuple #[.int .i64 v, .nilIface]) ∧ (w' = w ∨ ∃ t, w' = Lib.bytesWorld w 5 t) := Any.strconv_Atoi_ok Tryz.laysC172 s hmax v h w
open Go.RowKit in
theorem Tryz.strconv_Atoi_syntax_var (s : ByteArray) (hlim : s.size ≤ 281474976710656) (h : ∀ v, Lib.atoiAll s.data.toList ≠ .ok v) (h2 : Lib.atoiAll s.data.toList ≠ .range) (tp : TypeId) (p : Value) (w : World) (hvar : w.var? Tryz.prog "strconv.ErrSyntax" = some #[.iface tp p]) :
    Calls Tryz.prog 40 #[.string s] w fun e w' => ∃ N, e = .returned (.tuple #[.int .i64 0, .iface 94 (.pointer (some ⟨N, 0, none⟩))]) ∧ w.heap.size ≤ N ∧ w'.heap[N]? = some (.cells #[.string ⟨#[65, 116, 111, 105]⟩, .string s, .iface tp p] 108 (0, 0)) ∧ Below w.heap.size w w' := Any.strconv_Atoi_syntax_var Tryz.laysC172 s hlim (by revert h h2; cases Lib.atoiAll s.data.toList <;> intro h h2 <;> first | rfl | exact absurd rfl (h _) | exact absurd rfl h2) tp p w hvar
open Go.RowKit in
theorem Tryz.strconv_Atoi_range_var (s : ByteArray) (hlim : s.size ≤ 281474976710656) (h : Lib.atoiAll s.data.toList = .range) (tp : TypeId) (p : Value) (w : World) (hvar : w.var? Tryz.prog "strconv.ErrRange" = some #[.iface tp p]) :
    Calls Tryz.prog 40 #[.string s] w fun e w' => ∃ N, e = .returned (.tuple #[.int .i64 (Lib.atoiSat s.data.toList), .iface 94 (.pointer (some ⟨N, 0, none⟩))]) ∧ w.heap.size ≤ N ∧ w'.heap[N]? = some (.cells #[.string ⟨#[65, 116, 111, 105]⟩, .string s, .iface tp p] 108 (0, 0)) ∧ Below w.heap.size w w' := Any.strconv_Atoi_range_var Tryz.laysC172 s hlim h tp p w hvar
def Tryz.lays145_ren : Go.Shelf.Ren := ⟨fun | 145 => 38 | 220 => 55 | 219 => 67 | 217 => 77 | 225 => 78 | 224 => 79 | 267 => 80 | 266 => 89 | 314 => 90 | n => n, fun | 9 => 9 | 4 => 4 | 59 => 67 | 3 => 3 | 5 => 5 | 46 => 102 | 146 => 116 | 51 => 115 | n => n, fun | 1 => 0 | n => n⟩
theorem Tryz.lays145 : Go.Proofs.Lays.n145 Tryz.prog Tryz.lays145_ren := {
  mixed := by kernel_rfl
  f145 := Tryz.func38.trans (congrArg some (by kernel_rfl))
  f217 := Tryz.func77.trans (congrArg some (by kernel_rfl))
  f219 := Tryz.func67.trans (congrArg some (by kernel_rfl))
  f220 := Tryz.func55.trans (congrArg some (by kernel_rfl))
  f224 := Tryz.func79.trans (congrArg some (by kernel_rfl))
  f225 := Tryz.func78.trans (congrArg some (by kernel_rfl))
  f266 := Tryz.func89.trans (congrArg some (by kernel_rfl))
  f267 := Tryz.func80.trans (congrArg some (by kernel_rfl))
  f314 := Tryz.func90.trans (congrArg some (by kernel_rfl))
  t3 := Tryz.underlying3
  a3 := Tryz.isAgg3
  z3 := Tryz.sizeOf3
  v3 := Tryz.zeroValue3
  t4 := Tryz.underlying4
  a4 := Tryz.isAgg4
  z4 := Tryz.sizeOf4
  v4 := Tryz.zeroValue4
  t5 := Tryz.underlying5
  a5 := Tryz.isAgg5
  z5 := Tryz.sizeOf5
  v5 := Tryz.zeroValue5
  t9 := Tryz.underlying9
  a9 := Tryz.isAgg9
  z9 := Tryz.sizeOf9
  v9 := Tryz.zeroValue9
  t46 := Tryz.underlying102
  a46 := Tryz.isAgg102
  z46 := Tryz.sizeOf102
  v46 := Tryz.zeroValue102
  t51 := Tryz.underlying115
  a51 := Tryz.isAgg115
  z51 := Tryz.sizeOf115
  v51 := Tryz.zeroValue115
  t59 := Tryz.underlying67
  a59 := Tryz.isAgg67
  z59 := Tryz.sizeOf67
  v59 := Tryz.zeroValue67
  t146 := Tryz.underlying116
  a146 := Tryz.isAgg116
  z146 := Tryz.sizeOf116
  v146 := Tryz.zeroValue116
  g1 := by kernel_rfl }
open Go.RowKit Go.Lib in
theorem Tryz.strings_Cut (s sep : ByteArray) (m : Int) (w : World) (hs : s.size < 4294967281) (hm : w.cell? ⟨0, 0, none⟩ = some (.int .i64 m)) :
    Calls Tryz.prog 38 #[.string s, .string sep] w fun e w' => e = .returned (.tuple #[.string ⟨(Lib.cut s.data.toList sep.data.toList).1.toArray⟩, .string ⟨(Lib.cut s.data.toList sep.data.toList).2.1.toArray⟩, .bool (Lib.cut s.data.toList sep.data.toList).2.2]) ∧ ∃ n, w' = w.drewN n := Any.strings_Cut Tryz.lays145 s sep m w hs hm
def Tryz.lays146_ren : Go.Shelf.Ren := ⟨fun | 146 => 37 | 221 => 54 | 268 => 64 | 138 => 65 | 143 => 66 | 195 => 74 | 197 => 75 | 218 => 76 | 219 => 67 | 260 => 88 | 217 => 77 | 225 => 78 | 224 => 79 | 267 => 80 | 266 => 89 | 314 => 90 | n => n, fun | 9 => 9 | 31 => 65 | 3 => 3 | 4 => 4 | 0 => 0 | 105 => 99 | 21 => 21 | 5 => 5 | 46 => 102 | 119 => 127 | 139 => 130 | 138 => 129 | 146 => 116 | 51 => 115 | n => n, fun | 1 => 0 | 3 => 4 | 4 => 5 | n => n⟩
theorem Tryz.lays146 : Go.Proofs.Lays.n146 Tryz.prog Tryz.lays146_ren := {
  mixed := by kernel_rfl
  f138 := Tryz.func65.trans (congrArg some (by kernel_rfl))
  f143 := Tryz.func66.trans (congrArg some (by kernel_rfl))
  f146 := Tryz.func37.trans (congrArg some (by kernel_rfl))
  f195 := Tryz.func74.trans (congrArg some (by kernel_rfl))
  f197 := Tryz.func75.trans (congrArg some (by kernel_rfl))
  f217 := Tryz.func77.trans (congrArg some (by kernel_rfl))
  f218 := Tryz.func76.trans (congrArg some (by kernel_rfl))
  f219 := Tryz.func67.trans (congrArg some (by kernel_rfl))
  f221 := Tryz.func54.trans (congrArg some (by kernel_rfl))
  f224 := Tryz.func79.trans (congrArg some (by kernel_rfl))
  f225 := Tryz.func78.trans (congrArg some (by kernel_rfl))
  f260 := Tryz.func88.trans (congrArg some (by kernel_rfl))
  f266 := Tryz.func89.trans (congrArg some (by kernel_rfl))
  f267 := Tryz.func80.trans (congrArg some (by kernel_rfl))
  f268 := Tryz.func64.trans (congrArg some (by kernel_rfl))
  f314 := Tryz.func90.trans (congrArg some (by kernel_rfl))
  t0 := Tryz.underlying0
  a0 := Tryz.isAgg0
  z0 := Tryz.sizeOf0
  v0 := Tryz.zeroValue0
  t3 := Tryz.underlying3
  a3 := Tryz.isAgg3
  z3 := Tryz.sizeOf3
  v3 := Tryz.zeroValue3
  t4 := Tryz.underlying4
  a4 := Tryz.isAgg4
  z4 := Tryz.sizeOf4
  v4 := Tryz.zeroValue4
  t5 := Tryz.underlying5
  a5 := Tryz.isAgg5
  z5 := Tryz.sizeOf5
  v5 := Tryz.zeroValue5
  t9 := Tryz.underlying9
  a9 := Tryz.isAgg9
  z9 := Tryz.sizeOf9
  v9 := Tryz.zeroValue9
  t21 := Tryz.underlying21
  a21 := Tryz.isAgg21
  z21 := Tryz.sizeOf21
  v21 := Tryz.zeroValue21
  t31 := Tryz.underlying65
  a31 := Tryz.isAgg65
  z31 := Tryz.sizeOf65
  v31 := Tryz.zeroValue65
  t46 := Tryz.underlying102
  a46 := Tryz.isAgg102
  z46 := Tryz.sizeOf102
  v46 := Tryz.zeroValue102
  t51 := Tryz.underlying115
  a51 := Tryz.isAgg115
  z51 := Tryz.sizeOf115
  v51 := Tryz.zeroValue115
  t105 := Tryz.underlying99
  a105 := Tryz.isAgg99
  z105 := Tryz.sizeOf99
  v105 := Tryz.zeroValue99
  t119 := Tryz.underlying127
  a119 := Tryz.isAgg127
  z119 := Tryz.sizeOf127
  t138 := Tryz.underlying129
  a138 := Tryz.isAgg129
  z138 := Tryz.sizeOf129
  v138 := Tryz.zeroValue129
  t139 := Tryz.underlying130
  a139 := Tryz.isAgg130
  z139 := Tryz.sizeOf130
  v139 := Tryz.zeroValue130
  t146 := Tryz.underlying116
  a146 := Tryz.isAgg116
  z146 := Tryz.sizeOf116
  v146 := Tryz.zeroValue116
  g1 := by kernel_rfl
  g3 := by kernel_rfl
  g4 := by kernel_rfl }
open Go.RowKit Go.Lib in
theorem Tryz.strings_Split (s sep : ByteArray) (m : Int) (w : World) (hs : s.size < 4294967281) (hm : w.cell? ⟨0, 0, none⟩ = some (.int .i64 m)) (h1 : 1 ≤ sep.size) :
    Calls Tryz.prog 37 #[.string s, .string sep] w fun e w' =>
      e = .returned (.slice (some ⟨w.heap.size, 0, none⟩) (Lib.countB s sep + 1) (Lib.countB s sep + 1)) ∧ w' = w.alloc (.cells ((Lib.splitB sep 0 (Lib.countB s sep) s).map Value.string).toArray 9) := Any.strings_Split Tryz.lays146 (by kernel_rfl) s sep m w hs hm h1
end Go.Proofs

/-
  strings.Split at a blank and strings.Cut at a star, from the library's contracts, as the reader of items wants them.
-/
namespace Go.Proofs.YtnkhgppfnkglfaaGreatDoor
set_option maxRecDepth 100000
open Go.RowKit

theorem split_reads (s : ByteArray) (w : World) (hs : s.size ≤ 9000) (m : Int) (hm : w.cell? ⟨0, 0, none⟩ = some (.int .i64 m)) :
    Calls Tryz.prog 37 #[.string s, .string ⟨#[32]⟩] w fun e w' => ∃ v, e = .returned v ∧ ∃ ps : List ByteArray, w'.ownsRow w.heap.size 9 1 v ps.length (ps.map Value.string) ∧ ps.length ≤ 9001 ∧ (∀ p ∈ ps, p.size ≤ 9000) ∧ ps.map (fun p => p.data.toList) = cutS s.data.toList ∧ Below w.heap.size w w' := by
  refine (Tryz.strings_Split s ⟨#[32]⟩ m w (by omega) hm (by decide)).mono ?_
  rintro e w' ⟨rfl, rfl⟩
  have h1 : (Lib.splitB ⟨#[32]⟩ 0 (Lib.countB s ⟨#[32]⟩) s).length = Lib.countB s ⟨#[32]⟩ + 1 := Lib.splitB_all ⟨#[32]⟩ (by decide) 0 _ s rfl
  have h2 : Lib.countB s ⟨#[32]⟩ ≤ s.size := Lib.countB_le ⟨#[32]⟩ (by decide) s.size s (Nat.le_refl _)
  refine ⟨_, rfl, Lib.splitB ⟨#[32]⟩ 0 (Lib.countB s ⟨#[32]⟩) s, ?_, by omega, ?_, split_pieces s, below_alloc _⟩
  · rw [← h1]
    have := World.ownsRow_lit (base := w.heap.size) (e := 9) (size := 1) w ((Lib.splitB ⟨#[32]⟩ 0 (Lib.countB s ⟨#[32]⟩) s).map Value.string).toArray (Lib.splitB ⟨#[32]⟩ 0 (Lib.countB s ⟨#[32]⟩) s).length (Nat.le_refl _) (by unfold maxLen; omega) (by simp)
    simpa using this
  · intro p hp
    have h3 : p.data.toList ∈ cutS s.data.toList := by rw [← split_pieces s]; exact List.mem_map_of_mem hp
    have h4 : ∀ (l : List UInt8) (x : List UInt8), x ∈ cutS l → x.length ≤ l.length := by
      intro l
      induction l with
      | nil => intro x hx; simp [cutS] at hx; simp [hx]
      | cons c l ih =>
        intro x hx
        unfold cutS at hx
        split at hx
        · rcases List.mem_cons.1 hx with rfl | hx
          · simp
          · have := ih x hx; simp; omega
        · cases hc : cutS l with
          | nil => exact absurd hc (cutS_ne l)
          | cons q qs =>
            rw [hc] at hx ih
            simp only [consHead] at hx
            rcases List.mem_cons.1 hx with rfl | hx
            · have := ih q (by simp); simp; omega
            · have := ih x (by simp [hx]); simp; omega
    have := h4 _ _ h3
    rw [len_list, len_list] at this
    omega
theorem cut_reads (s : ByteArray) (w : World) (hs : s.size ≤ 9000) (m : Int) (hm : w.cell? ⟨0, 0, none⟩ = some (.int .i64 m)) :
    Calls Tryz.prog 38 #[.string s, .string ⟨#[42]⟩] w fun e w' => ∃ (a b : ByteArray) (c : Bool), e = .returned (.tuple #[.string a, .string b, .bool c]) ∧ (a.data.toList, b.data.toList, c) = Lib.cut s.data.toList [42] ∧ a.size ≤ 9000 ∧ b.size ≤ 9000 ∧ Below w.heap.size w w' := by
  refine (Tryz.strings_Cut s ⟨#[42]⟩ m w (by omega) hm).mono ?_
  rintro e w' ⟨rfl, n, rfl⟩
  have h1 : (Lib.cut s.data.toList [42]).1.length ≤ s.data.toList.length ∧ (Lib.cut s.data.toList [42]).2.1.length ≤ s.data.toList.length := by
    unfold Lib.cut
    split
    · simp; omega
    · simp
  rw [len_list] at h1
  refine ⟨_, _, _, rfl, rfl, ?_, ?_, (Below.refl _ _).trans ⟨rfl, rfl, rfl, Nat.le_refl _, fun _ _ => rfl⟩⟩
  · have := h1.1; simpa [ByteArray.size] using Nat.le_trans this hs
  · have := h1.2; simpa [ByteArray.size] using Nat.le_trans this hs

theorem var_stays {P : Program} {w w' : World} {n : String} {cs : Array Value} (h : w.var? P n = some cs) (hb : Below w.heap.size w w') : w'.var? P n = some cs := by
  unfold World.var? at h ⊢
  obtain ⟨g, hg, h⟩ := Option.bind_eq_some_iff.1 h
  rw [hg, Option.bind_some]
  have hlt : g < w.heap.size := by
    rcases Nat.lt_or_ge g w.heap.size with h1 | h1
    · exact h1
    · rw [Array.getElem?_eq_none h1] at h
      simp at h
  rw [hb.block g hlt]
  exact h
theorem cell_stays {w w' : World} {b o : Nat} {v : Value} (h : w.cell? ⟨b, o, none⟩ = some v) (hb : Below w.heap.size w w') (hlt : b < w.heap.size) : w'.cell? ⟨b, o, none⟩ = some v := (hb.cell (p := ⟨b, o, none⟩) hlt).trans h

/-- The worlds in which the reader works. -/
def ReadsIn (w : World) : Prop :=
  Tab w ∧ 0 < w.heap.size ∧ (∃ m : Int, w.cell? ⟨0, 0, none⟩ = some (.int .i64 m)) ∧
  (∃ (t : TypeId) (p : Value), w.var? Tryz.prog "strconv.ErrSyntax" = some #[.iface t p]) ∧ (∃ (t : TypeId) (p : Value), w.var? Tryz.prog "strconv.ErrRange" = some #[.iface t p])
theorem reads_of (hat : ∀ (s : ByteArray) (w : World), s.size ≤ 9000 → ReadsIn w → Calls Tryz.prog 40 #[.string s] w fun e w' => AtoiEnd s.data.toList e ∧ Below w.heap.size w w') : Reads ReadsIn where
  keep := fun ⟨h1, h2, ⟨m, hm⟩, ⟨t, p, hs⟩, ⟨u, q, hr⟩⟩ hb => ⟨h1.below hb, Nat.lt_of_lt_of_le h2 hb.size, ⟨m, cell_stays hm hb h2⟩, ⟨t, p, var_stays hs hb⟩, ⟨u, q, var_stays hr hb⟩⟩
  tab := fun h => h.1
  split := fun s w hs ⟨_, _, ⟨m, hm⟩, _⟩ => split_reads s w hs m hm
  cut := fun s w hs ⟨_, _, ⟨m, hm⟩, _⟩ => cut_reads s w hs m hm
  atoi := hat

end Go.Proofs.YtnkhgppfnkglfaaGreatDoor

/-
  strconv.Atoi at every text, from the library's contracts: a number that is read, or an error. Condition: its two errors are there.
-/
namespace Go.Proofs.YtnkhgppfnkglfaaGreatDoor
open Go.RowKit

theorem atoi_any (s : ByteArray) (hs : s.size ≤ 1048576) (w : World) (hy : ∃ (t : TypeId) (p : Value), w.var? Tryz.prog "strconv.ErrSyntax" = some #[.iface t p]) (hr : ∃ (t : TypeId) (p : Value), w.var? Tryz.prog "strconv.ErrRange" = some #[.iface t p]) :
    Calls Tryz.prog 40 #[.string s] w fun e w' => AtoiEnd s.data.toList e ∧ Below w.heap.size w w' := by
  obtain ⟨t, p, hy⟩ := hy
  obtain ⟨t2, p2, hr⟩ := hr
  by_cases hok : ∃ v, Lib.atoiAll s.data.toList = .ok v
  · obtain ⟨v, h⟩ := hok
    refine (Tryz.strconv_Atoi_ok s (by omega) v h w).mono ?_
    rintro e w' ⟨rfl, hw⟩
    refine ⟨.inl ⟨v, h, rfl⟩, ?_⟩
    rcases hw with rfl | ⟨u, rfl⟩
    · exact Below.refl _ _
    · exact Lib.bytesWorld_below _ _ _
  · have hno : ∀ v : Int, Lib.atoiAll s.data.toList ≠ .ok v := fun v h => hok ⟨v, h⟩
    by_cases h : Lib.atoiAll s.data.toList = .range
    · refine (Tryz.strconv_Atoi_range_var s (by omega) h t2 p2 w hr).mono ?_
      rintro e w' ⟨N, rfl, _, _, hb⟩
      exact ⟨.inr ⟨hno, _, _, _, rfl⟩, hb⟩
    · refine (Tryz.strconv_Atoi_syntax_var s (by omega) hno h t p w hy).mono ?_
      rintro e w' ⟨N, rfl, _, _, hb⟩
      exact ⟨.inr ⟨hno, _, _, _, rfl⟩, hb⟩

end Go.Proofs.YtnkhgppfnkglfaaGreatDoor

/-
  From a walk to a row that lists variables, the world's shape at hand: what the library's own variables hold is read off the shape.
-/
namespace Go.Proofs.YtnkhgppfnkglfaaGreatDoor
open Go.RowKit

theorem handed_shaped {H : Type} {enc : TypeId × Value → H} {a : Assume} {C : Checked} {os : Os} {f : FuncId} {fn : Func} {s : ChangeSpec} {conds : List PathCond} {apart fresh handsOn again : Bool} {X : World → Array Value → Prop}
    (hX : ∀ (w w' : World) (args : Array Value), w.heap = w'.heap → X w args → X w' args)
    (own : ownKnob C.prog.godebug = none) (started : os.Started) (noInit : C.prog.inits.idxOf? f = none) (hfn : C.prog.funcs[f]? = some fn)
    (witness : ∃ (w : World) (tape : Tape) (i : Input), w.os = os ∧ (w.forCall tape i).Shaped C.prog ∧ i.vars = [] ∧ Input.okWide C.prog (w.forCall tape i) .any w.heap.size f i ∧
      ((s.pre enc C.prog fn conds apart (w.forCall tape i).memory i.args ∧ X (w.forCall tape i).memory i.args) ∧ sizedMet enc C.prog fn (OpenSpec.ofChange s) apart (w.forCall tape i).memory i.args) ∧ a.holds C.prog (lone (Frame.enter C.prog f i.args .normal) [] (w.forCall tape i)))
    (walk : ∀ (W : World) (base : Nat) (args : Array Value) (ds gs : List (DataW H)) (before : List MemPlace),
      (∀ (j : Nat) t v, fn.params[j]? = some t → args[j]? = some v → Value.okWide C.prog W .any base t v) →
      DataW.Whole enc C.prog fn.params.toList s.vars apart W args.toList ds gs before → W.ShapedOpen C.prog → X W args →
      Calls C.prog f args W fun e W' => ∃ v, e = .returned v ∧ s.post enc C.prog fn apart fresh handsOn again W args v W') :
    ReturnsInHanded a C os f .any (fun w args => (s.pre enc C.prog fn conds apart w args ∧ X w args) ∧ sizedMet enc C.prog fn (OpenSpec.ofChange s) apart w args) (s.post enc C.prog fn apart fresh handsOn again) := by
  refine returnsInHanded_of_calls own started noInit witness fun w tape i _ hshape _ hok hpre _ => ?_
  obtain ⟨_, _, _, fn2, hfn2, _, _, _, _, hval⟩ := hok
  obtain rfl : fn2 = fn := Option.some.inj (hfn2.symm.trans hfn)
  obtain ⟨⟨⟨ds, gs, before, hw, _⟩, hx⟩, _⟩ := hpre
  refine (walk (w.forCall tape i) w.heap.size i.args ds gs before hval (DataW.Whole.of_heap (w' := w.forCall tape i) (by rfl) hw) hshape (hX _ _ _ (by rfl) hx)).mono fun e W' ⟨v, he, hp⟩ => ?_
  subst he
  exact ChangeSpec.post_blind hp

theorem maxLen_cell {w : World} (h : w.ShapedOpen Tryz.prog) : ∃ m : Int, w.cell? ⟨0, 0, none⟩ = some (.int .i64 m) :=
  Go.Proofs.cell_of_shapedOpen_int (zero := #[.int .i64 0]) (t := 3) h (of_decide_eq_true (by kernel_rfl)) (by kernel_rfl) rfl (by kernel_rfl) (by kernel_rfl) Tryz.underlying3

end Go.Proofs.YtnkhgppfnkglfaaGreatDoor

/-
  From the condition that the library's variables are laid, and the world's shape, to what the reader of items wants.
-/
namespace Go.Proofs.YtnkhgppfnkglfaaGreatDoor
open Go.RowKit

theorem starError : "*" ++ "errors.errorString" = "*errors.errorString" := by decide
theorem sentType (u : TypeId) (h : Tryz.prog.typeName? 3 u = some "*errors.errorString") : u = 120 :=
  typeName_ptr_named (nm := "errors.errorString") (by rw [starError]; kernel_rfl) (by kernel_rfl) (by decide) u (by rw [starError]; exact h)

theorem reads_of_laid {W : World} (h : laidMet Tryz.prog [("math/bits.deBruijn32tab", Rows.laid_math_bits_deBruijn32tab), ("math/bits.deBruijn64tab", Rows.laid_math_bits_deBruijn64tab), ("internal/strconv.uint64pow10", Rows.laid_internal_strconv_uint64pow10), ("unicode/utf8.acceptRanges", Rows.laid_unicode_utf8_acceptRanges), ("strconv.ErrRange", Rows.laid_strconv_ErrRange), ("strconv.ErrSyntax", Rows.laid_strconv_ErrSyntax), ("unicode/utf8.first", Rows.laid_unicode_utf8_first)] W)
    (hs : W.ShapedOpen Tryz.prog) : ReadsIn W := by
  have ht : Tab W := Lib.tabIs_of_head (g := 3) (t := 124) (e := 103) (n := 20) (by kernel_rfl) (by kernel_rfl) (by kernel_rfl) (by kernel_rfl) (by kernel_rfl) (by kernel_rfl) h.tail.tail
  obtain ⟨a, _, hv, _⟩ := laid_sentinel h.tail.tail.tail.tail (g := 2) (by kernel_rfl) (by kernel_rfl) Tryz.underlying46 sentType Tryz.underlying120 Tryz.underlying122 rfl rfl Tryz.underlying9 (by kernel_rfl) (by kernel_rfl)
  obtain ⟨b, _, hv2, _⟩ := laid_sentinel h.tail.tail.tail.tail.tail (g := 1) (by kernel_rfl) (by kernel_rfl) Tryz.underlying46 sentType Tryz.underlying120 Tryz.underlying122 rfl rfl Tryz.underlying9 (by kernel_rfl) (by kernel_rfl)
  obtain ⟨m, hm⟩ := maxLen_cell hs
  exact ⟨ht, lt_of_cell hm, ⟨m, hm⟩, ⟨_, _, hv2⟩, ⟨_, _, hv⟩⟩

theorem readsIn : Reads ReadsIn := reads_of fun s w hs ⟨_, _, _, hy, hr⟩ => atoi_any s (by omega) w hy hr

end Go.Proofs.YtnkhgppfnkglfaaGreatDoor

/-
  The walk of laws.FnZRead, out of the contracts: it answers true whatever the bytes are, and nothing that was there is written. Condition: what the reader wants of the library (Reads).
-/
namespace Go.Proofs.YtnkhgppfnkglfaaGreatDoor
open Go.RowKit
set_option linter.unusedVariables false

theorem ReadZEnd.out {w w' : World} {o : Option (List It)} {e : Ending} (h : ReadZEnd w w' o e) : ∃ v, e = .returned (.tuple #[v, .bool o.isSome]) ∧ TailZ w' v (o.getD []) := by
  rcases h with ⟨zs, v, rfl, he, ho⟩ | ⟨rfl, he⟩
  · exact ⟨v, he, ho.tail⟩
  · exact ⟨_, he, tailZ_nil _⟩
theorem bytes_same {s t : ByteArray} (h : s.data.toList = t.data.toList) : s = t := by
  obtain ⟨⟨a⟩⟩ := s
  obtain ⟨⟨b⟩⟩ := t
  simp at h
  rw [h]
theorem size_of {s : ByteArray} {l : List UInt8} (h : s.data.toList = l) : s.size = l.length := by
  rw [← h, Array.length_toList]; rfl
theorem TailZ.far {w : World} {v : Value} {zs : List It} (h : TailZ w v zs) (hne : zs ≠ []) : ∃ b off cap, v = .slice (some ⟨b, off, none⟩) zs.length cap ∧ b < w.heap.size ∧ ∀ j, j < zs.length → ∃ rv, w.cell? ⟨b, off + j * 2, none⟩ = some rv ∧ IntsAt w rv (zs.getD j ([], 0)).1 := by
  rcases h.items.cases with ⟨_, _, h0, _⟩ | ⟨b, off, cap, _, _, rfl, hb, hc⟩
  · exact absurd h0 hne
  · refine ⟨b, off, cap, rfl, hb, fun j hj => ?_⟩
    obtain ⟨rv, h1, _, h3⟩ := hc j hj
    exact ⟨rv, h1, h3⟩

set_option maxRecDepth 100000 in
set_option maxHeartbeats 8000000 in
theorem lawFnZRead {V : World → Prop} (R : Reads V) (a : Option Addr) (len cap : Nat) (bs : List Int) (a2 : Option Addr) (len2 cap2 : Nat) (bs2 : List Int) (w : World) (h : IsRow .u8 w a len cap bs) (h2 : IsRow .u8 w a2 len2 cap2 bs2) (hv : V w) :
    Calls Tryz.prog 3 #[.slice a len cap, .slice a2 len2 cap2] w fun e w' => e = .returned (.bool true) ∧ Below w.heap.size w w' := by
  by_cases hbig : (1048576 : Int) < (len : Int)
  · go_enter Tryz.func3, Tryz.ntmps3
    go_wp2
    go_ret
    exact ⟨rfl, Below.refl _ _⟩
  by_cases hbig2 : (1048576 : Int) < (len2 : Int)
  · go_enter Tryz.func3, Tryz.ntmps3
    go_wp2
    go_ret
    exact ⟨rfl, Below.refl _ _⟩
  have HV : Hid (V w) := hv
  have H : Hid (IsRow .u8 w a len cap bs) := h
  have H2 : Hid (IsRow .u8 w a2 len2 cap2 bs2) := h2
  clear h h2 hv
  go_enter Tryz.func3, Tryz.ntmps3
  go_wp2_with fail
  refine (drawZText_any a len cap bs _ H.out).mono ?_
  rintro e w1 ⟨v, rfl, zs, hgz, T1, hb1⟩
  have K1 : Hid (Below w.heap.size w w1) := hb1
  have GZ : Hid (GoodZ zs) := hgz
  clear hb1 hgz
  go_wp2_with fail
  refine (drawZText_any a2 len2 cap2 bs2 _ (H2.out.below K1.out)).mono ?_
  rintro e w2 ⟨v2, rfl, ys, hgy, S2, hb2⟩
  have K2 : Hid (Below w.heap.size w w2) := below_then K1.out hb2
  have GY : Hid (GoodZ ys) := hgy
  have T2 := T1.below hb2
  clear hb2 hgy T1 K1
  obtain ⟨c, HC⟩ : ∃ c, Hid (zOkB zs = c) := ⟨_, Eq.refl _⟩
  obtain ⟨d, HD⟩ : ∃ d, Hid (zOkB ys = d) := ⟨_, Eq.refl _⟩
  obtain ⟨za, zc, rfl⟩ := T2.shape
  obtain ⟨ya, yc, rfl⟩ := S2.shape
  obtain ⟨n, hn⟩ : ∃ n, n = zs.length := ⟨_, rfl⟩
  obtain ⟨m, hm⟩ : ∃ m, m = ys.length := ⟨_, rfl⟩
  have HN : Hid (n = zs.length) := hn
  have HM : Hid (m = ys.length) := hm
  have hn2 : n ≤ 200 := by rw [hn]; exact GZ.out.1
  have hm2 : m ≤ 200 := by rw [hm]; exact GY.out.1
  rw [← hn] at T2 ⊢
  rw [← hm] at S2 ⊢
  clear hn hm
  have gcc : (c != c) = false := by simp
  have gce : (c == c) = true := by simp
  go_wp2_with fail
  refine (okI_val HC.out T2).mono ?_
  rintro e w3 ⟨rfl, hb3⟩
  have K3 : Hid (Below w.heap.size w w3) := below_then K2.out hb3
  have T3 := T2.below hb3
  have S3 := S2.below hb3
  clear hb3 T2 S2 K2
  go_wp2_with fail
  refine (okS_val HC.out T3).mono ?_
  rintro e w4 ⟨rfl, hb4⟩
  have K4 : Hid (Below w.heap.size w w4) := below_then K3.out hb4
  have T4 := T3.below hb4
  have S4 := S3.below hb4
  clear hb4 T3 S3 K3
  go_wp2_with fail
  refine (okS_val HC.out T4).mono ?_
  rintro e w5 ⟨rfl, hb5⟩
  have K5 : Hid (Below w.heap.size w w5) := below_then K4.out hb5
  have T5 := T4.below hb5
  have S5 := S4.below hb5
  clear hb5 T4 S4 K4
  cases c with
  | false =>
    clear S5
    go_wp2_with fail
    refine (okI_val HC.out T5).mono ?_
    rintro e w31 ⟨rfl, hb31⟩
    have K31 : Hid (Below w.heap.size w w31) := below_then K5.out hb31
    have T31 := T5.below hb31
    clear hb31 T5 K5
    go_wp2_with fail
    refine (okS_val HC.out T31).mono ?_
    rintro e w32 ⟨rfl, hb32⟩
    have K32 : Hid (Below w.heap.size w w32) := below_then K31.out hb32
    clear hb32 T31 K31
    go_wp2
    go_ret
    exact ⟨rfl, K32.out⟩
  | true =>
    go_wp2_with fail
    refine (okS_val HD.out S5).mono ?_
    rintro e w6 ⟨rfl, hb6⟩
    have K6 : Hid (Below w.heap.size w w6) := below_then K5.out hb6
    have T6 := T5.below hb6
    have S6 := S5.below hb6
    clear hb6 T5 S5 K5
    cases d with
    | false =>
      clear S6
      go_wp2_with fail
      refine (okI_val HC.out T6).mono ?_
      rintro e w31 ⟨rfl, hb31⟩
      have K31 : Hid (Below w.heap.size w w31) := below_then K6.out hb31
      have T31 := T6.below hb31
      clear hb31 T6 K6
      go_wp2_with fail
      refine (okS_val HC.out T31).mono ?_
      rintro e w32 ⟨rfl, hb32⟩
      have K32 : Hid (Below w.heap.size w w32) := below_then K31.out hb32
      clear hb32 T31 K31
      go_wp2
      go_ret
      exact ⟨rfl, K32.out⟩
    | true =>
      by_cases hn0 : n = 0
      · have gn : ((n : Int) == 0) = true := by simp [hn0]
        clear hn0
        clear S6
        go_wp2_with fail
        refine (okI_val HC.out T6).mono ?_
        rintro e w31 ⟨rfl, hb31⟩
        have K31 : Hid (Below w.heap.size w w31) := below_then K6.out hb31
        have T31 := T6.below hb31
        clear hb31 T6 K6
        go_wp2_with fail
        refine (okS_val HC.out T31).mono ?_
        rintro e w32 ⟨rfl, hb32⟩
        have K32 : Hid (Below w.heap.size w w32) := below_then K31.out hb32
        clear hb32 T31 K31
        go_wp2
        go_ret
        exact ⟨rfl, K32.out⟩
      have gn : ((n : Int) == 0) = false := by simp [hn0]
      by_cases hm0 : m = 0
      · have gm : ((m : Int) == 0) = true := by simp [hm0]
        clear hm0
        clear S6
        go_wp2_with fail
        refine (okI_val HC.out T6).mono ?_
        rintro e w31 ⟨rfl, hb31⟩
        have K31 : Hid (Below w.heap.size w w31) := below_then K6.out hb31
        have T31 := T6.below hb31
        clear hb31 T6 K6
        go_wp2_with fail
        refine (okS_val HC.out T31).mono ?_
        rintro e w32 ⟨rfl, hb32⟩
        have K32 : Hid (Below w.heap.size w w32) := below_then K31.out hb32
        clear hb32 T31 K31
        go_wp2
        go_ret
        exact ⟨rfl, K32.out⟩
      have gm : ((m : Int) == 0) = false := by simp [hm0]
      have HZ0 : Hid (zs ≠ []) := fun e => hn0 (by rw [HN.out, e]; rfl)
      have HY0 : Hid (ys ≠ []) := fun e => hm0 (by rw [HM.out, e]; rfl)
      have hnp : 0 < n := by omega
      have hmp : 0 < m := by omega
      clear hn0 hm0
      obtain ⟨b1, o1, c1, e1, -, -⟩ := T6.far HZ0.out
      obtain ⟨b2, o2, c2, e2, -, -⟩ := S6.far HY0.out
      simp only [Value.slice.injEq] at e1 e2
      obtain ⟨rfl, -, rfl⟩ := e1
      obtain ⟨rfl, -, rfl⟩ := e2
      obtain ⟨k, hk⟩ : ∃ k, n = k + 1 := ⟨n - 1, by omega⟩
      have q1 : (n : Int) - 1 = (k : Int) := by omega
      have hkn : k < n := by omega
      have HK1 : Hid (n - 1 = k) := by show _ = _; omega
      clear hk
      go_wp2_with fail
      refine (implZText_any _ zs _ (R.tab (R.keep HV.out K6.out)) T6.items GZ.out.wfz GZ.out.room).mono ?_
      rintro e w7 ⟨s, rfl, hs, hb7⟩
      have HS : Hid (s.data.toList = zTx zs) := hs
      have hz1 : s.size ≤ 40000 := by rw [size_of hs]; exact GZ.out.text
      have hy1 : ¬ 9223372036854775807 < s.size + 1 := by omega
      have K7 : Hid (Below w.heap.size w w7) := below_then K6.out hb7
      have T7 := T6.below hb7
      have S7 := S6.below hb7
      clear hs hb7 T6 S6 K6
      go_wp2_with fail
      refine (implZText_any _ ys _ (R.tab (R.keep HV.out K7.out)) S7.items GY.out.wfz GY.out.room).mono ?_
      rintro e w8 ⟨t, rfl, ht, hb8⟩
      have HT : Hid (t.data.toList = zTx ys) := ht
      have hz2 : t.size ≤ 40000 := by rw [size_of ht]; exact GY.out.text
      have hy2 : ¬ 9223372036854775807 < s.size + 1 + t.size := by omega
      have K8 : Hid (Below w.heap.size w w8) := below_then K7.out hb8
      have T8 := T7.below hb8
      have S8 := S7.below hb8
      clear ht hb8 T7 S7 K7
      obtain ⟨f, HF⟩ : ∃ f, Hid (zOkB (zs ++ ys) = f) := ⟨_, Eq.refl _⟩
      obtain ⟨q, HQ⟩ : ∃ q, Hid (q = s ++ ⟨#[32]⟩ ++ t) := ⟨_, Eq.refl _⟩
      have HRD : Hid (readZ q.data.toList = if zOkB (zs ++ ys) = true then some (zs ++ ys) else none) := by
        show _ = _
        have e1 : q.data.toList = zTx zs ++ 32 :: zTx ys := by
          rw [HQ.out]
          simp [ByteArray.data_append, HS.out, HT.out]
        rw [e1]
        exact read_app HC.out HD.out HZ0.out HY0.out
      have HAH : Hid (f = (rowLessB (zs.getD (n - 1) ([], 0)).1 (ys.getD 0 ([], 0)).1 && decide (n + m ≤ 100))) := by
        show _ = _
        rw [← HF.out, HN.out, HM.out]
        exact ok_app HC.out HD.out HZ0.out HY0.out
      go_wp2_with fail
      rw [← HQ.out]
      refine (implZRead_any R q _ (R.keep HV.out K8.out)).mono ?_
      rintro e w9 ⟨hr, hb9⟩
      rw [HRD.out, HF.out] at hr
      have K9 : Hid (Below w.heap.size w w9) := below_then K8.out hb9
      have T9 := T8.below hb9
      have S9 := S8.below hb9
      clear hb9 T8 S8 K8 hz1 hz2 hy1 hy2
      cases f with
      | false =>
        simp only [Bool.false_eq_true, if_false] at hr
        obtain ⟨vx, rfl, X9⟩ := hr.out
        simp only [Option.isSome_none, Option.getD_none] at X9 ⊢
        clear hr
        obtain ⟨ac, HAC⟩ : ∃ c, Hid (addOk zs ys = c) := ⟨_, Eq.refl _⟩
        obtain ⟨us, HAO⟩ : ∃ c, Hid (addOut zs ys = c) := ⟨_, Eq.refl _⟩
        go_wp2_with fail
        refine (add_val HAC.out HAO.out T9 S9).mono ?_
        rintro e w10 ⟨vs, rfl, U10, hb10⟩
        have K10 : Hid (Below w.heap.size w w10) := below_then K9.out hb10
        have T10 := T9.below hb10
        have S10 := S9.below hb10
        have X10 := X9.below hb10
        clear hb10 T9 S9 X9 K9
        obtain ⟨r1, d1, I1⟩ : ∃ rv, w10.cell? ⟨b1, o1 + k * 2, none⟩ = some rv ∧ IntsAt w10 rv (zs.getD k ([], 0)).1 := by
          obtain ⟨b', o', c', e', -, hcc⟩ := T10.far HZ0.out
          simp only [Value.slice.injEq, Option.some.injEq, Addr.mk.injEq] at e'
          obtain ⟨⟨rfl, rfl, -⟩, -, -⟩ := e'
          exact hcc k (by rw [← HN.out]; exact hkn)
        obtain ⟨r2, d2, I2⟩ : ∃ rv, w10.cell? ⟨b2, o2, none⟩ = some rv ∧ IntsAt w10 rv (ys.getD 0 ([], 0)).1 := by
          obtain ⟨b', o', c', e', -, hcc⟩ := S10.far HY0.out
          simp only [Value.slice.injEq, Option.some.injEq, Addr.mk.injEq] at e'
          obtain ⟨⟨rfl, rfl, -⟩, -, -⟩ := e'
          simpa using hcc 0 (by rw [← HM.out]; exact hmp)
        obtain ⟨x1, n1, y1, rfl⟩ := I1.shape
        obtain ⟨x2, n2, y2, rfl⟩ := I2.shape
        cases hrl : rowLessB (zs.getD k ([], 0)).1 (ys.getD 0 ([], 0)).1
        · go_wp2_with fail
          go_quiet ((go_at_call 10; exact Calls.quiet_of (implRowLess_val hrl (I1.drewN _) (I2.drewN _))))
          go_wp2
          go_ret
          exact ⟨rfl, below_drewN K10.out _⟩
        · have hnm : ¬ (n : Int) + (m : Int) ≤ 100 := by
            intro hle
            have h1 := HAH.out
            rw [HK1.out, hrl] at h1
            simp at h1
            omega
          have hnd : decide ((n : Int) + (m : Int) ≤ 100) = false := decide_eq_false hnm
          go_wp2_with fail
          go_quiet ((go_at_call 10; exact Calls.quiet_of (implRowLess_val hrl (I1.drewN _) (I2.drewN _))))
          go_wp2
          go_ret
          exact ⟨rfl, below_drewN K10.out _⟩
      | true =>
        simp only [if_true] at hr
        obtain ⟨vx, rfl, X9⟩ := hr.out
        simp only [Option.isSome_some, Option.getD_some] at X9 ⊢
        clear hr
        have HADD := add_yes HC.out HD.out (add_app HF.out HC.out HD.out) HF.out
        have HAC : Hid (addOk zs ys = true) := HADD.1
        have HAO : Hid (addOut zs ys = zs ++ ys) := HADD.2
        clear HADD
        go_wp2_with fail
        refine (add_val HAC.out HAO.out T9 S9).mono ?_
        rintro e w10 ⟨vs, rfl, U10, hb10⟩
        have K10 : Hid (Below w.heap.size w w10) := below_then K9.out hb10
        have T10 := T9.below hb10
        have S10 := S9.below hb10
        have X10 := X9.below hb10
        clear hb10 T9 S9 X9 K9
        obtain ⟨r1, d1, I1⟩ : ∃ rv, w10.cell? ⟨b1, o1 + k * 2, none⟩ = some rv ∧ IntsAt w10 rv (zs.getD k ([], 0)).1 := by
          obtain ⟨b', o', c', e', -, hcc⟩ := T10.far HZ0.out
          simp only [Value.slice.injEq, Option.some.injEq, Addr.mk.injEq] at e'
          obtain ⟨⟨rfl, rfl, -⟩, -, -⟩ := e'
          exact hcc k (by rw [← HN.out]; exact hkn)
        obtain ⟨r2, d2, I2⟩ : ∃ rv, w10.cell? ⟨b2, o2, none⟩ = some rv ∧ IntsAt w10 rv (ys.getD 0 ([], 0)).1 := by
          obtain ⟨b', o', c', e', -, hcc⟩ := S10.far HY0.out
          simp only [Value.slice.injEq, Option.some.injEq, Addr.mk.injEq] at e'
          obtain ⟨⟨rfl, rfl, -⟩, -, -⟩ := e'
          simpa using hcc 0 (by rw [← HM.out]; exact hmp)
        obtain ⟨x1, n1, y1, rfl⟩ := I1.shape
        obtain ⟨x2, n2, y2, rfl⟩ := I2.shape
        have h1 := HAH.out
        rw [HK1.out] at h1
        have h2 := h1.symm
        rw [Bool.and_eq_true, decide_eq_true_eq] at h2
        obtain ⟨hrl, hnm⟩ := h2
        have hnm' : (n : Int) + (m : Int) ≤ 100 := by omega
        clear h1
        go_wp2_with fail
        go_quiet ((go_at_call 10; exact Calls.quiet_of (implRowLess_val hrl (I1.drewN _) (I2.drewN _))))
        go_wp2_with fail
        refine (zsame_val (zsB_refl _) (X10.below (below_drewN (Below.refl _ _) _)) (U10.below (below_drewN (Below.refl _ _) _))).mono ?_
        rintro e w12 ⟨rfl, hb12⟩
        have K12 : Hid (Below w.heap.size w w12) := below_then (below_drewN K10.out _) hb12
        clear hb12 T10 S10 X10 U10 d1 d2 I1 I2
        go_wp2
        go_ret
        exact ⟨rfl, K12.out⟩

theorem lawFnZRead_laid (a : Option Addr) (len cap : Nat) (bs : List Int) (a2 : Option Addr) (len2 cap2 : Nat) (bs2 : List Int) (w : World) (h : IsRow .u8 w a len cap bs) (h2 : IsRow .u8 w a2 len2 cap2 bs2) (hv : ReadsIn w) :
    Calls Tryz.prog 3 #[.slice a len cap, .slice a2 len2 cap2] w fun e w' => e = .returned (.bool true) ∧ Below w.heap.size w w' := lawFnZRead readsIn a len cap bs a2 len2 cap2 bs2 w h h2 hv

end Go.Proofs.YtnkhgppfnkglfaaGreatDoor
