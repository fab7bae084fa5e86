/-
  Texts of this claim put behind one another: Base, TextMath, RowOk, Order, OrderFacts, Items, ZOk, Own, OwnZ.
-/
import Derived.Test.YtkgopbffgahhcaaGreatDoorRows
import Derived.WalkKit
import Derived.BigQuiet
import Derived.WalkSmall
import Derived.Deep.QuietTactic
import Derived.Lib.ItoaNum
import Derived.Lib.ItoaLen
import Derived.WalkLawsBesides
import Derived.Laws.AppendOwnNone

/-
  What the walks of this seat share: an int slice as a list of numbers, and that list in a later memory. No condition of its own.
-/
namespace Go.Proofs.YtkgopbffgahhcaaGreatDoor
open Go.RowKit

/-- The value v is an int slice whose elements, in the memory w, are the numbers xs. -/
def IntsAt (w : World) (v : Value) (xs : List Int) : Prop :=
  xs.length ≤ 140737488355328 ∧ ∃ (a : Option Addr) (cap : Nat), v = .slice a xs.length cap ∧ (a = none → cap = 0) ∧
    (xs ≠ [] → ∃ b off, a = some ⟨b, off, none⟩ ∧ b < w.heap.size ∧ ∀ j, j < xs.length → w.cell? ⟨b, off + j, none⟩ = some (.int .i64 (xs.getD j 0)))

theorem IntsAt.below {w w' : World} {v : Value} {xs : List Int} (h : IntsAt w v xs) (hb : Below w.heap.size w w') : IntsAt w' v xs := by
  obtain ⟨hl, a, cap, rfl, hn, hc⟩ := h
  refine ⟨hl, a, cap, rfl, hn, fun hne => ?_⟩
  obtain ⟨b, off, rfl, hbl, hcell⟩ := hc hne
  exact ⟨b, off, rfl, Nat.lt_of_lt_of_le hbl hb.size, fun j hj => (hb.cell (p := ⟨b, off + j, none⟩) hbl).trans (hcell j hj)⟩

theorem IntsAt.cases {w : World} {v : Value} {xs : List Int} (h : IntsAt w v xs) :
    (∃ a cap, xs = [] ∧ v = .slice a 0 cap) ∨
    (∃ b off cap, 0 < xs.length ∧ xs.length ≤ 140737488355328 ∧ v = .slice (some ⟨b, off, none⟩) xs.length cap ∧ b < w.heap.size ∧ ∀ j, j < xs.length → w.cell? ⟨b, off + j, none⟩ = some (.int .i64 (xs.getD j 0))) := by
  obtain ⟨hl, a, cap, rfl, _, hc⟩ := h
  by_cases hx : xs = []
  · subst hx
    exact .inl ⟨a, cap, rfl, rfl⟩
  · obtain ⟨b, off, rfl, hbl, hcell⟩ := hc hx
    exact .inr ⟨b, off, cap, List.length_pos_iff.2 hx, hl, rfl, hbl, hcell⟩

/-- What a frame tells of a slice of integers that came in: nil, or a row of cap cells, the numbers zs, of which the first len are its elements. -/
def IsRow (k : IntKind) (w : World) (a : Option Addr) (len cap : Nat) (zs : List Int) : Prop :=
  (a = none ∧ len = 0 ∧ cap = 0 ∧ zs = []) ∨
  ∃ x, a = some x ∧ len ≤ cap ∧ cap ≤ maxLen ∧ zs.length = cap ∧ (∀ i, i < zs.length → w.cell? (x.add i) = some (.int k (zs.getD i 0))) ∧ ∀ n ∈ zs, (Lit.int k n).wf = true

theorem lt_of_cell {w : World} {p : Addr} {u : Value} (h : w.cell? p = some u) : p.block < w.heap.size := by
  by_cases hp : p.block < w.heap.size
  · exact hp
  · simp [World.cell?, Array.getElem?_eq_none (Nat.le_of_not_lt hp)] at h

theorem IsRow.below {k : IntKind} {w w' : World} {a : Option Addr} {len cap : Nat} {zs : List Int} (h : IsRow k w a len cap zs) (hb : Below w.heap.size w w') : IsRow k w' a len cap zs := by
  rcases h with h | ⟨x, rfl, hl, hm, hz, hcell, hwf⟩
  · exact .inl h
  · refine .inr ⟨x, rfl, hl, hm, hz, fun i hi => ?_, hwf⟩
    have hc := hcell i hi
    exact (hb.cell (lt_of_cell hc)).trans hc

theorem IsRow.ints {w : World} {a : Option Addr} {len cap : Nat} {zs : List Int} (h : IsRow .i64 w a len cap zs) (hlim : len ≤ 140737488355328) :
    ∃ xs : List Int, xs.length = len ∧ IntsAt w (.slice a len cap) xs := by
  rcases h with ⟨rfl, rfl, rfl, rfl⟩ | ⟨x, rfl, hl, hm, hz, hcell, _⟩
  · exact ⟨[], rfl, by simp, _, _, rfl, fun _ => rfl, fun h => absurd rfl h⟩
  · have hlen : (zs.take len).length = len := by simp; omega
    refine ⟨zs.take len, hlen, ?_⟩
    by_cases h0 : len = 0
    · subst h0
      exact ⟨by simp, _, _, rfl, fun h => by simp at h, fun h => absurd (by simp) h⟩
    · obtain ⟨b, off, spot⟩ := x
      have hc0 := hcell 0 (by omega)
      have hspot : spot = none := by simpa [Addr.add] using World.cell?_spot hc0
      subst hspot
      refine ⟨by omega, _, _, by rw [hlen], fun h => by simp at h, fun _ => ⟨b, off, rfl, ?_, fun j hj => ?_⟩⟩
      · exact lt_of_cell hc0
      · rw [hlen] at hj
        have := hcell j (by omega)
        rw [Addr.add_lit] at this
        simpa [List.getD, hj] using this

/-- Each number is one that an int holds. -/
def WfInts (xs : List Int) : Prop := ∀ x ∈ xs, -9223372036854775808 ≤ x ∧ x ≤ 9223372036854775807

theorem wf_i64 {n : Int} (h : (Lit.int .i64 n).wf = true) : -9223372036854775808 ≤ n ∧ n ≤ 9223372036854775807 := by
  simp [Lit.wf, IntKind.min, IntKind.max, IntKind.signed, IntKind.bits] at h
  omega

theorem IsRow.intsWf {w : World} {a : Option Addr} {len cap : Nat} {zs : List Int} (h : IsRow .i64 w a len cap zs) (hlim : len ≤ 140737488355328) :
    ∃ xs : List Int, xs.length = len ∧ IntsAt w (.slice a len cap) xs ∧ WfInts xs := by
  have h2 := h.ints hlim
  rcases h with ⟨rfl, rfl, rfl, rfl⟩ | ⟨x, rfl, hl, hm, hz, hcell, hwf⟩
  · obtain ⟨xs, h1, h2⟩ := h2
    refine ⟨xs, h1, h2, fun x hx => ?_⟩
    have := List.length_eq_zero_iff.1 h1
    subst this
    simp at hx
  · obtain ⟨xs, h1, h2⟩ := h2
    refine ⟨xs, h1, h2, fun x hx => ?_⟩
    obtain ⟨j, hj, rfl⟩ := List.getElem_of_mem hx
    obtain ⟨_, a, cap', hv, _, hc⟩ := h2
    obtain ⟨b, off, ha, _, hcell2⟩ := hc (List.ne_nil_of_mem hx)
    simp only [Value.slice.injEq] at hv
    obtain ⟨ha', _, _⟩ := hv
    rw [ha, Option.some.injEq] at ha'
    subst ha'
    have e1 := hcell2 j hj
    have e2 := hcell j (by omega)
    rw [Addr.add_lit, e1] at e2
    have e3 : xs.getD j 0 = zs.getD j 0 := by simpa using e2
    have e4 : xs[j] = zs.getD j 0 := by rw [← e3]; simp [List.getD, hj]
    rw [e4]
    have hjz : j < zs.length := by omega
    exact wf_i64 (hwf _ (by simp [List.getD, hjz]))

theorem infoInt : (Tryz.prog.info? 3).map (fun i => (i.zero, i.size, i.bytes)) = some (some (.int .i64 0), 1, 8) := by kernel_rfl

theorem ints_of_row {wr : World} {cap : Nat} {base g : Nat} {xs : List Int} (hlim : xs.length ≤ 140737488355328)
    (hown : wr.ownsRow base 3 1 (.slice (some ⟨g, 0, none⟩) xs.length cap) xs.length (xs.map (Value.int .i64))) :
    IntsAt wr (.slice (some ⟨g, 0, none⟩) xs.length cap) xs := by
  refine ⟨hlim, _, _, rfl, fun h => by simp at h, fun _ => ⟨_, _, rfl, (hown.lt g rfl).2, fun j hj => ?_⟩⟩
  have := hown.cellAt j (by omega)
  rw [Nat.zero_add, this]
  simp [List.getD, hj]

theorem ret_bool {a b : Bool} (h : a = b) : Ending.returned (.bool a) = .returned (.bool b) := by rw [h]
theorem ret_int {a b : Int} (h : a = b) : Ending.returned (.int .i64 a) = .returned (.int .i64 b) := by rw [h]

end Go.Proofs.YtkgopbffgahhcaaGreatDoor

/-
  Plain functions on rows: what a cell and a row may be, a row's text; and facts on them. No program is spoken of.
-/
namespace Go.Proofs.YtkgopbffgahhcaaGreatDoor

def cellB (n : Int) : Bool := decide (-1000000000 ≤ n ∧ n ≤ 1000000000)
def rowOkB (xs : List Int) : Bool := decide (1 ≤ xs.length ∧ xs.length ≤ 6) && xs.all cellB

/-- What follows the first number of a row. -/
def txTail : List Int → List UInt8
  | [] => []
  | x :: xs => 44 :: (Lib.itoa x ++ txTail xs)
/-- A row's text. -/
def rowTx : List Int → List UInt8
  | [] => []
  | x :: xs => Lib.itoa x ++ txTail xs

theorem txTail_snoc : ∀ (xs : List Int) (y : Int), txTail (xs ++ [y]) = txTail xs ++ 44 :: Lib.itoa y
  | [], y => by simp [txTail]
  | x :: xs, y => by simp [txTail, txTail_snoc xs y]
theorem rowTx_snoc (xs : List Int) (y : Int) (h : xs ≠ []) : rowTx (xs ++ [y]) = rowTx xs ++ 44 :: Lib.itoa y := by
  cases xs with
  | nil => exact absurd rfl h
  | cons x xs => simp [rowTx, txTail_snoc]
theorem take_snoc {xs : List Int} {k : Nat} (h : k < xs.length) : xs.take (k + 1) = xs.take k ++ [xs.getD k 0] := by
  rw [List.take_succ_eq_append_getElem h]; simp [List.getD, h]
theorem rowTx_first {xs : List Int} (h : 0 < xs.length) : rowTx (xs.take 1) = Lib.itoa (xs.getD 0 0) := by
  rw [take_snoc h]; simp [rowTx, txTail]
theorem rowTx_next {xs : List Int} {k : Nat} (h : k < xs.length) (hk : 0 < k) : rowTx (xs.take (k + 1)) = rowTx (xs.take k) ++ 44 :: Lib.itoa (xs.getD k 0) := by
  rw [take_snoc h, rowTx_snoc _ _ (fun e => by
    have h1 : (xs.take k).length = k := by rw [List.length_take]; omega
    rw [e] at h1
    simp at h1
    omega)]
theorem txTail_le : ∀ xs : List Int, WfInts xs → (txTail xs).length ≤ 22 * xs.length
  | [], _ => by simp [txTail]
  | x :: xs, h => by
    have h1 := Lib.itoa_length_le x (h x (by simp)).1 (h x (by simp)).2
    have h2 := txTail_le xs (fun y hy => h y (by simp [hy]))
    simp [txTail]; omega
theorem rowTx_le (xs : List Int) (h : WfInts xs) : (rowTx xs).length ≤ 22 * xs.length := by
  cases xs with
  | nil => simp [rowTx]
  | cons x xs =>
    have h1 := Lib.itoa_length_le x (h x (by simp)).1 (h x (by simp)).2
    have h2 := txTail_le xs (fun y hy => h y (by simp [hy]))
    simp [rowTx]; omega
theorem wf_take {xs : List Int} (h : WfInts xs) (k : Nat) : WfInts (xs.take k) := fun x hx => h x (List.mem_of_mem_take hx)
theorem wf_at {xs : List Int} (h : WfInts xs) {k : Nat} (hk : k < xs.length) : -9223372036854775808 ≤ xs.getD k 0 ∧ xs.getD k 0 ≤ 9223372036854775807 := h _ (by simp [List.getD, hk])

end Go.Proofs.YtkgopbffgahhcaaGreatDoor

/-
  The contracts of spec.RowOk and impl.RowOk, and of their tests of a cell: both answer rowOkB, at every int slice.
-/
namespace Go.Proofs.YtkgopbffgahhcaaGreatDoor
open Go.RowKit


theorem cellB_yes {n : Int} (h1 : -1000000000 ≤ n) (h2 : n ≤ 1000000000) : cellB n = true := by simp [cellB, h1, h2]
theorem cellB_no {n : Int} (h : ¬ (-1000000000 ≤ n ∧ n ≤ 1000000000)) : cellB n = false := by simp only [cellB, h, decide_false]

theorem l1Cell_any (n : Int) (w : World) : Calls Tryz.prog 73 #[.int .i64 n] w fun e w' => e = .returned (.bool (cellB n)) ∧ w' = w := by
  by_cases h1 : -1000000000 ≤ n
  · by_cases h2 : n ≤ 1000000000
    · go_enter Tryz.func73, Tryz.ntmps73
      go_wp2
      go_ret
      exact ⟨ret_bool (cellB_yes h1 h2).symm, rfl⟩
    · go_enter Tryz.func73, Tryz.ntmps73
      go_wp2
      go_ret
      exact ⟨ret_bool (cellB_no (by omega)).symm, rfl⟩
  · go_enter Tryz.func73, Tryz.ntmps73
    go_wp2
    go_ret
    exact ⟨ret_bool (cellB_no (by omega)).symm, rfl⟩

theorem cellFits_any (n : Int) (w : World) : Calls Tryz.prog 97 #[.int .i64 n] w fun e w' => e = .returned (.bool (cellB n)) ∧ w' = w := by
  by_cases h1 : -1000000000 ≤ n
  · by_cases h2 : n ≤ 1000000000
    · go_enter Tryz.func97, Tryz.ntmps97
      go_wp2
      go_ret
      exact ⟨ret_bool (cellB_yes h1 h2).symm, rfl⟩
    · go_enter Tryz.func97, Tryz.ntmps97
      go_wp2
      go_ret
      exact ⟨ret_bool (cellB_no (by omega)).symm, rfl⟩
  · go_enter Tryz.func97, Tryz.ntmps97
    go_wp2
    go_ret
    exact ⟨ret_bool (cellB_no (by omega)).symm, rfl⟩

theorem all_step {xs : List Int} {k : Nat} (hk : k < xs.length) (h : (xs.take k).all cellB = true) (hc : cellB (xs.getD k 0) = true) : (xs.take (k + 1)).all cellB = true := by
  rw [List.take_succ_eq_append_getElem hk, List.all_append, h]
  simpa [List.getD, hk] using hc
theorem all_miss {xs : List Int} {k : Nat} (hk : k < xs.length) (hc : cellB (xs.getD k 0) = false) : rowOkB xs = false := by
  have h : xs.all cellB = false := by
    rw [List.all_eq_false]
    exact ⟨xs[k], List.getElem_mem hk, by simpa [List.getD, hk] using hc⟩
  simp [rowOkB, h]
theorem ok_all {xs : List Int} (h1 : 1 ≤ xs.length) (h6 : xs.length ≤ 6) (h : (xs.take xs.length).all cellB = true) : rowOkB xs = true := by
  rw [List.take_length] at h
  simp [rowOkB, h1, h6, h]
theorem ok_wide {xs : List Int} (h6 : ¬ xs.length ≤ 6) : rowOkB xs = false := by simp [rowOkB, h6]

set_option maxHeartbeats 1000000 in
theorem specRowOk_some (b off cap : Nat) (xs : List Int) (w : World) (hpos : 0 < xs.length) (hlim : xs.length ≤ 140737488355328)
    (hc : ∀ j, j < xs.length → w.cell? ⟨b, off + j, none⟩ = some (.int .i64 (xs.getD j 0))) :
    Calls Tryz.prog 51 #[.slice (some ⟨b, off, none⟩) xs.length cap] w fun e w' => e = .returned (.bool (rowOkB xs)) ∧ w' = w := by
  obtain ⟨n, hn⟩ : ∃ n, n = xs.length := ⟨_, rfl⟩
  have HN : Hid (n = xs.length) := hn
  rw [← hn] at hpos hlim hc ⊢
  clear hn
  go_enter Tryz.func51, Tryz.ntmps51
  go_wp2
  go_loop [3] (fun i => ∃ k : Nat, k ≤ n ∧ i = .int .i64 k ∧ Hid ((xs.take k).all cellB = true)) (fun i => n - (intOf i).toNat)
  case atStart => exact ⟨0, Nat.zero_le _, rfl, by simp [Hid]⟩
  case round =>
    obtain ⟨k, hk, rfl, hall⟩ := hrel
    by_cases hlt : k < n
    · have hx := hc k hlt
      clear hc
      obtain ⟨x, HX⟩ : ∃ x, Hid (x = xs.getD k 0) := ⟨_, rfl⟩
      rw [← HX.out] at hx
      cases hcb : cellB x with
      | true =>
        go_wp2_with (go_at_call 73; refine (l1Cell_any _ _).mono ?_; rintro e w' ⟨rfl, rfl⟩)
        go_round
        case rel => exact ⟨k + 1, by omega, by go_num, all_step (by rw [← HN.out]; exact hlt) hall.out (by rw [← HX.out]; exact hcb)⟩
        case measure => simp [intOf]; omega
      | false =>
        go_wp2_with (go_at_call 73; refine (l1Cell_any _ _).mono ?_; rintro e w' ⟨rfl, rfl⟩)
        go_ret
        exact ⟨ret_bool (all_miss (by rw [← HN.out]; exact hlt) (by rw [← HX.out]; exact hcb)).symm, rfl⟩
    · have e : k = n := by omega
      subst e
      by_cases h6 : k ≤ 6
      · go_wp2
        go_ret
        exact ⟨ret_bool ((decide_eq_true (by omega)).trans (ok_all (by rw [← HN.out]; omega) (by rw [← HN.out]; omega) (by rw [← HN.out]; exact hall.out)).symm), rfl⟩
      · go_wp2
        go_ret
        exact ⟨ret_bool ((decide_eq_false (by omega)).trans (ok_wide (by rw [← HN.out]; omega)).symm), rfl⟩

theorem specRowOk_none (a : Option Addr) (cap : Nat) (w : World) :
    Calls Tryz.prog 51 #[.slice a 0 cap] w fun e w' => e = .returned (.bool (rowOkB [])) ∧ w' = w := by
  go_enter Tryz.func51, Tryz.ntmps51
  go_wp2
  refine wp_loop_rounds 1 ?_
  rw [rounds_succ]
  go_wp2
  go_ret
  exact ⟨rfl, rfl⟩

theorem specRowOk_any (v : Value) (xs : List Int) (w : World) (h : IntsAt w v xs) :
    Calls Tryz.prog 51 #[v] w fun e w' => e = .returned (.bool (rowOkB xs)) ∧ w' = w := by
  rcases h.cases with ⟨a, cap, rfl, rfl⟩ | ⟨b, off, cap, hpos, hlim, rfl, hbw, hc⟩
  · exact specRowOk_none a cap w
  · exact specRowOk_some b off cap xs w hpos hlim hc

set_option maxHeartbeats 1000000 in
theorem implRowOk_some (b off cap : Nat) (xs : List Int) (w : World) (hpos : 0 < xs.length) (hlim : xs.length ≤ 140737488355328)
    (hc : ∀ j, j < xs.length → w.cell? ⟨b, off + j, none⟩ = some (.int .i64 (xs.getD j 0))) :
    Calls Tryz.prog 61 #[.slice (some ⟨b, off, none⟩) xs.length cap] w fun e w' => e = .returned (.bool (rowOkB xs)) ∧ w' = w := by
  obtain ⟨n, hn⟩ : ∃ n, n = xs.length := ⟨_, rfl⟩
  have HN : Hid (n = xs.length) := hn
  rw [← hn] at hpos hlim hc ⊢
  clear hn
  by_cases h6 : n ≤ 6
  · go_enter Tryz.func61, Tryz.ntmps61
    go_wp2
    go_loop [15] (fun i => ∃ k : Nat, k ≤ n ∧ i = .int .i64 k ∧ Hid ((xs.take k).all cellB = true)) (fun i => n - (intOf i).toNat)
    case atStart => exact ⟨0, Nat.zero_le _, rfl, by simp [Hid]⟩
    case round =>
      obtain ⟨k, hk, rfl, hall⟩ := hrel
      by_cases hlt : k < n
      · have hx := hc k hlt
        clear hc
        obtain ⟨x, HX⟩ : ∃ x, Hid (x = xs.getD k 0) := ⟨_, rfl⟩
        rw [← HX.out] at hx
        cases hcb : cellB x with
        | true =>
          go_wp2_with (go_at_call 97; refine (cellFits_any _ _).mono ?_; rintro e w' ⟨rfl, rfl⟩)
          go_round
          case rel => exact ⟨k + 1, by omega, by go_num, all_step (by rw [← HN.out]; exact hlt) hall.out (by rw [← HX.out]; exact hcb)⟩
          case measure => simp [intOf]; omega
        | false =>
          go_wp2_with (go_at_call 97; refine (cellFits_any _ _).mono ?_; rintro e w' ⟨rfl, rfl⟩)
          go_ret
          exact ⟨ret_bool (all_miss (by rw [← HN.out]; exact hlt) (by rw [← HX.out]; exact hcb)).symm, rfl⟩
      · have e : k = n := by omega
        subst e
        go_wp2
        go_ret
        exact ⟨ret_bool (ok_all (by rw [← HN.out]; omega) (by rw [← HN.out]; omega) (by rw [← HN.out]; exact hall.out)).symm, rfl⟩
  · go_enter Tryz.func61, Tryz.ntmps61
    go_wp2
    go_ret
    exact ⟨ret_bool (ok_wide (by rw [← HN.out]; omega)).symm, rfl⟩

theorem implRowOk_none (a : Option Addr) (cap : Nat) (w : World) :
    Calls Tryz.prog 61 #[.slice a 0 cap] w fun e w' => e = .returned (.bool (rowOkB [])) ∧ w' = w := by
  go_enter Tryz.func61, Tryz.ntmps61
  go_wp2
  go_ret
  exact ⟨rfl, rfl⟩

theorem implRowOk_any (v : Value) (xs : List Int) (w : World) (h : IntsAt w v xs) :
    Calls Tryz.prog 61 #[v] w fun e w' => e = .returned (.bool (rowOkB xs)) ∧ w' = w := by
  rcases h.cases with ⟨a, cap, rfl, rfl⟩ | ⟨b, off, cap, hpos, hlim, rfl, hbw, hc⟩
  · exact implRowOk_none a cap w
  · exact implRowOk_some b off cap xs w hpos hlim hc

end Go.Proofs.YtkgopbffgahhcaaGreatDoor

/-
  The contracts of the order of rows: spec.l1Order, impl.ascending, impl.compareRows, and RowSame and RowLess on both sides, at all int slices.
-/
namespace Go.Proofs.YtkgopbffgahhcaaGreatDoor
open Go.RowKit

/-- w' is w behind some draws. -/
def Drew (w w' : World) : Prop := ∃ q, w' = w.drewN q
theorem Drew.refl (w : World) : Drew w w := ⟨0, rfl⟩
theorem Drew.more {w a : World} (h : Drew w a) (n : Nat) : Drew w (a.drewN n) := by
  obtain ⟨q, rfl⟩ := h
  exact ⟨q + n, by rw [World.drewN_drewN]⟩
theorem Drew.below {w w' : World} (h : Drew w w') : Below w.heap.size w w' := by
  obtain ⟨q, rfl⟩ := h
  exact below_drewN (Below.refl _ _) _

def ordL : List Int → List Int → Int
  | [], [] => 0
  | [], _ :: _ => -1
  | _ :: _, [] => 1
  | x :: xs, y :: ys => if x < y then -1 else if y < x then 1 else ordL xs ys
/-- How many stand against how many. -/
def ordN (n m : Nat) : Int := if n < m then -1 else if m < n then 1 else 0
def ordI (x y : Int) : Int := if x < y then -1 else if y < x then 1 else 0

theorem ord_drop : ∀ (k : Nat) (xs ys : List Int), (∀ j, j < k → xs.getD j 0 = ys.getD j 0) → k ≤ xs.length → k ≤ ys.length → ordL xs ys = ordL (xs.drop k) (ys.drop k)
  | 0, _, _, _, _, _ => by simp
  | k + 1, xs, ys, h, hx, hy => by
    match xs, ys, hx, hy with
    | x :: xs, y :: ys, hx, hy =>
      have h0 := h 0 (by omega)
      simp at h0
      subst h0
      have := ord_drop k xs ys (fun j hj => by simpa using h (j + 1) (by omega)) (by simpa using hx) (by simpa using hy)
      simp [ordL, this]
theorem ord_at {xs ys : List Int} {k : Nat} (h : ∀ j, j < k → xs.getD j 0 = ys.getD j 0) (hx : k < xs.length) (hy : k < ys.length) (hne : ordI (xs.getD k 0) (ys.getD k 0) ≠ 0) :
    ordL xs ys = ordI (xs.getD k 0) (ys.getD k 0) := by
  rw [ord_drop k xs ys h (by omega) (by omega), List.drop_eq_getElem_cons hx, List.drop_eq_getElem_cons hy]
  simp only [List.getD, List.getElem?_eq_getElem hx, List.getElem?_eq_getElem hy, Option.getD_some] at hne ⊢
  unfold ordI at hne ⊢
  rw [ordL]
  by_cases h1 : xs[k] < ys[k]
  · simp [h1]
  · by_cases h2 : ys[k] < xs[k]
    · simp [h1, h2]
    · simp [h1, h2] at hne
theorem ord_end {xs ys : List Int} {k : Nat} (h : ∀ j, j < k → xs.getD j 0 = ys.getD j 0) (hx : k ≤ xs.length) (hy : k ≤ ys.length) (he : k = xs.length ∨ k = ys.length) :
    ordL xs ys = ordN xs.length ys.length := by
  rw [ord_drop k xs ys h hx hy]
  unfold ordN
  rcases he with he | he
  · have e1 : xs.drop k = [] := by rw [List.drop_eq_nil_iff]; omega
    rw [e1]
    cases hd : ys.drop k with
    | nil => rw [List.drop_eq_nil_iff] at hd; rw [if_neg (by omega), if_neg (by omega)]; rfl
    | cons y l =>
      have : (ys.drop k).length = l.length + 1 := by rw [hd]; rfl
      rw [List.length_drop] at this
      rw [if_pos (by omega)]; rfl
  · have e1 : ys.drop k = [] := by rw [List.drop_eq_nil_iff]; omega
    rw [e1]
    cases hd : xs.drop k with
    | nil => rw [List.drop_eq_nil_iff] at hd; rw [if_neg (by omega), if_neg (by omega)]; rfl
    | cons y l =>
      have : (xs.drop k).length = l.length + 1 := by rw [hd]; rfl
      rw [List.length_drop] at this
      rw [if_neg (by omega), if_pos (by omega)]; rfl

theorem ordN_eq (n m : Nat) : ordN n m = ordI n m := by unfold ordN ordI; simp

theorem ord_sub (n m : Nat) : ordI ((n : Int) - m) 0 = ordN n m := by
  unfold ordN ordI
  by_cases h1 : n < m
  · rw [if_pos (by omega), if_pos h1]
  · by_cases h2 : m < n
    · rw [if_neg (by omega), if_pos (by omega), if_neg h1, if_pos h2]
    · rw [if_neg (by omega), if_neg (by omega), if_neg h1, if_neg h2]

theorem ascending_any (x y : Int) (w : World) : Calls Tryz.prog 66 #[.int .i64 x, .int .i64 y] w fun e w' => e = .returned (.int .i64 (ordI x y)) ∧ w' = w := by
  by_cases h1 : x < y
  · go_enter Tryz.func66, Tryz.ntmps66
    go_wp2
    go_ret
    exact ⟨ret_int (by unfold ordI; rw [if_pos h1]), rfl⟩
  · by_cases h2 : y < x
    · go_enter Tryz.func66, Tryz.ntmps66
      go_wp2
      go_ret
      exact ⟨ret_int (by unfold ordI; rw [if_neg (by omega), if_pos h2]), rfl⟩
    · go_enter Tryz.func66, Tryz.ntmps66
      go_wp2
      go_ret
      exact ⟨ret_int (by unfold ordI; rw [if_neg (by omega), if_neg (by omega)]), rfl⟩

set_option maxHeartbeats 1000000 in
theorem compareRows_some (b off cap b2 off2 cap2 : Nat) (xs ys : List Int) (w : World) (hpos : 0 < xs.length) (hlim : xs.length ≤ 140737488355328) (hpos2 : 0 < ys.length) (hlim2 : ys.length ≤ 140737488355328)
    (hc : ∀ j, j < xs.length → w.cell? ⟨b, off + j, none⟩ = some (.int .i64 (xs.getD j 0)))
    (hc2 : ∀ j, j < ys.length → w.cell? ⟨b2, off2 + j, none⟩ = some (.int .i64 (ys.getD j 0))) :
    Calls Tryz.prog 65 #[.slice (some ⟨b, off, none⟩) xs.length cap, .slice (some ⟨b2, off2, none⟩) ys.length cap2, .func (.func 66) #[] #[]] w fun e w' =>
      e = .returned (.int .i64 (ordL xs ys)) ∧ Drew w w' := by
  obtain ⟨n, hn⟩ : ∃ n, n = xs.length := ⟨_, rfl⟩
  have HN : Hid (n = xs.length) := hn
  obtain ⟨m, hm⟩ : ∃ m, m = ys.length := ⟨_, rfl⟩
  have HM : Hid (m = ys.length) := hm
  rw [← hn] at hpos hlim hc ⊢
  rw [← hm] at hpos2 hlim2 hc2 ⊢
  clear hn hm
  go_enter Tryz.func65, Tryz.ntmps65
  go_wp2
  all_goals
    go_loopw [14] (fun i wr => ∃ k q : Nat, k ≤ n ∧ k ≤ m ∧ i = .int .i64 k ∧ wr = w.drewN q ∧ Hid (∀ j, j < k → xs.getD j 0 = ys.getD j 0))
      (fun i _ => n - (intOf i).toNat)
    case atStart => exact ⟨0, 0, Nat.zero_le _, Nat.zero_le _, rfl, rfl, by intro j hj; omega⟩
    case round =>
      obtain ⟨k, q, hkn, hkm, rfl, rfl, HS⟩ := hrel
      by_cases hlt : k < n ∧ k < m
      · obtain ⟨hl1, hl2⟩ := hlt
        have hx := hc k hl1
        have hy := hc2 k hl2
        clear hc hc2
        obtain ⟨x, HX⟩ : ∃ x, Hid (x = xs.getD k 0) := ⟨_, rfl⟩
        obtain ⟨y, HY⟩ : ∃ y, Hid (y = ys.getD k 0) := ⟨_, rfl⟩
        rw [← HX.out] at hx
        rw [← HY.out] at hy
        by_cases hz : ordI x y = 0
        · have hne : (ordI x y != 0) = false := by simp [hz]
          have HZ : Hid (x = y) := by
            unfold ordI at hz
            by_cases h1 : x < y
            · simp [h1] at hz
            · by_cases h2 : y < x
              · simp [h1, h2] at hz
              · show x = y; omega
          clear hz
          go_wp2
          go_quiet ((go_at_call 66; exact (ascending_any _ _ _).mono fun _ _ h => ⟨h.1, _, h.2⟩))
          go_wp2
          go_roundw
          case rel => exact ⟨k + 1, _, by omega, by omega, by go_num, rfl, fun j hj => by
            rcases Nat.lt_succ_iff_lt_or_eq.1 hj with h | h
            · exact HS.out j h
            · rw [h, ← HX.out, ← HY.out]; exact HZ.out⟩
          case measure => simp [intOf]; omega
        · have hne : (ordI x y != 0) = true := by simp [hz]
          have HE : Hid (ordL xs ys = ordI x y) := by
            have := ord_at HS.out (by rw [← HN.out]; exact hl1) (by rw [← HM.out]; exact hl2) (by rw [← HX.out, ← HY.out]; exact hz)
            rw [← HX.out, ← HY.out] at this
            exact this
          clear hz
          go_wp2
          go_quiet ((go_at_call 66; exact (ascending_any _ _ _).mono fun _ _ h => ⟨h.1, _, h.2⟩))
          go_wp2
          go_ret
          exact ⟨ret_int HE.out.symm, Drew.more (Drew.refl _) _⟩
      · have HE : Hid (ordL xs ys = ordI n m) := by
          have := ord_end HS.out (by rw [← HN.out]; exact hkn) (by rw [← HM.out]; exact hkm) (by rw [← HN.out, ← HM.out]; omega)
          rw [← HN.out, ← HM.out] at this
          show ordL xs ys = ordI n m
          rw [this, ordN_eq]
        clear hc hc2
        go_wp2_with (go_at_call 66; refine (ascending_any _ _ _).mono ?_; rintro e w' ⟨rfl, rfl⟩)
        go_ret
        exact ⟨ret_int HE.out.symm, Drew.more (Drew.refl _) _⟩

theorem compareRows_left (a : Option Addr) (cap : Nat) (a2 : Option Addr) (m cap2 : Nat) (w : World) (hm : m ≤ 140737488355328) :
    Calls Tryz.prog 65 #[.slice a 0 cap, .slice a2 m cap2, .func (.func 66) #[] #[]] w fun e w' => e = .returned (.int .i64 (ordI 0 m)) ∧ w' = w := by
  go_enter Tryz.func65, Tryz.ntmps65
  go_wp2
  all_goals
    refine wp_loop_rounds 1 ?_
    rw [rounds_succ]
    go_wp2_with (go_at_call 66; refine (ascending_any _ _ _).mono ?_; rintro e w' ⟨rfl, rfl⟩)
    go_ret
    exact ⟨rfl, rfl⟩
theorem compareRows_right (a : Option Addr) (n cap : Nat) (a2 : Option Addr) (cap2 : Nat) (w : World) (_hn : n ≤ 140737488355328) :
    Calls Tryz.prog 65 #[.slice a n cap, .slice a2 0 cap2, .func (.func 66) #[] #[]] w fun e w' => e = .returned (.int .i64 (ordI n 0)) ∧ w' = w := by
  go_enter Tryz.func65, Tryz.ntmps65
  go_wp2
  all_goals
    refine wp_loop_rounds 1 ?_
    rw [rounds_succ]
    go_wp2_with (go_at_call 66; refine (ascending_any _ _ _).mono ?_; rintro e w' ⟨rfl, rfl⟩)
    go_ret
    exact ⟨rfl, rfl⟩

theorem ordL_nil (ys : List Int) : ordL [] ys = ordI 0 ys.length := by
  have := ord_end (xs := []) (ys := ys) (k := 0) (by intro j hj; omega) (by simp) (by simp) (.inl rfl)
  rw [this, ordN_eq]; rfl
theorem ordL_nil' (xs : List Int) : ordL xs [] = ordI xs.length 0 := by
  have := ord_end (xs := xs) (ys := []) (k := 0) (by intro j hj; omega) (by simp) (by simp) (.inr rfl)
  rw [this, ordN_eq]; rfl

theorem compareRows_q (v v2 : Value) (xs ys : List Int) (w : World) (h : IntsAt w v xs) (h2 : IntsAt w v2 ys) :
    Calls Tryz.prog 65 #[v, v2, .func (.func 66) #[] #[]] w fun e w' => e = .returned (.int .i64 (ordL xs ys)) ∧ Drew w w' := by
  rcases h.cases with ⟨a, cap, rfl, rfl⟩ | ⟨b, off, cap, hpos, hlim, rfl, hbw, hc⟩
  · obtain ⟨hl, a2, cap2, rfl, _⟩ := h2
    rw [ordL_nil]
    refine (compareRows_left a cap a2 _ cap2 w hl).mono fun e w' ⟨he, hw⟩ => ⟨he, ?_⟩
    rw [hw]; exact Drew.refl _
  · rcases h2.cases with ⟨a2, cap2, rfl, rfl⟩ | ⟨b2, off2, cap2, hpos2, hlim2, rfl, _, hc2⟩
    · rw [ordL_nil']
      refine (compareRows_right _ _ cap a2 cap2 w hlim).mono fun e w' ⟨he, hw⟩ => ⟨he, ?_⟩
      rw [hw]; exact Drew.refl _
    · exact compareRows_some b off cap b2 off2 cap2 xs ys w hpos hlim hpos2 hlim2 hc hc2

theorem compareRows_any (v v2 : Value) (xs ys : List Int) (w : World) (h : IntsAt w v xs) (h2 : IntsAt w v2 ys) :
    Calls Tryz.prog 65 #[v, v2, .func (.func 66) #[] #[]] w fun e w' => e = .returned (.int .i64 (ordL xs ys)) ∧ Below w.heap.size w w' :=
  (compareRows_q v v2 xs ys w h h2).mono fun _ _ ⟨h1, h2⟩ => ⟨h1, h2.below⟩

set_option maxHeartbeats 1000000 in
theorem l1Order_some (b off cap b2 off2 cap2 : Nat) (xs ys : List Int) (w : World) (hpos : 0 < xs.length) (hlim : xs.length ≤ 140737488355328) (hpos2 : 0 < ys.length) (hlim2 : ys.length ≤ 140737488355328)
    (hc : ∀ j, j < xs.length → w.cell? ⟨b, off + j, none⟩ = some (.int .i64 (xs.getD j 0)))
    (hc2 : ∀ j, j < ys.length → w.cell? ⟨b2, off2 + j, none⟩ = some (.int .i64 (ys.getD j 0))) :
    Calls Tryz.prog 93 #[.slice (some ⟨b, off, none⟩) xs.length cap, .slice (some ⟨b2, off2, none⟩) ys.length cap2] w fun e w' =>
      ∃ d : Int, e = .returned (.int .i64 d) ∧ ordI d 0 = ordL xs ys ∧ Drew w w' := by
  obtain ⟨n, hn⟩ : ∃ n, n = xs.length := ⟨_, rfl⟩
  have HN : Hid (n = xs.length) := hn
  obtain ⟨m, hm⟩ : ∃ m, m = ys.length := ⟨_, rfl⟩
  have HM : Hid (m = ys.length) := hm
  rw [← hn] at hpos hlim hc ⊢
  rw [← hm] at hpos2 hlim2 hc2 ⊢
  clear hn hm
  go_enter Tryz.func93, Tryz.ntmps93
  go_wp2
  go_loopw [5] (fun i wr => ∃ k q : Nat, k ≤ n ∧ k ≤ m ∧ i = .int .i64 k ∧ wr = w.drewN q ∧ Hid (∀ j, j < k → xs.getD j 0 = ys.getD j 0))
    (fun i _ => n - (intOf i).toNat)
  case atStart => exact ⟨0, 0, Nat.zero_le _, Nat.zero_le _, rfl, rfl, by intro j hj; omega⟩
  case round =>
    obtain ⟨k, q, hkn, hkm, rfl, rfl, HS⟩ := hrel
    by_cases hl1 : k < n
    · by_cases hl2 : k < m
      · have hx := hc k hl1
        have hy := hc2 k hl2
        clear hc hc2
        obtain ⟨x, HX⟩ : ∃ x, Hid (x = xs.getD k 0) := ⟨_, rfl⟩
        obtain ⟨y, HY⟩ : ∃ y, Hid (y = ys.getD k 0) := ⟨_, rfl⟩
        rw [← HX.out] at hx
        rw [← HY.out] at hy
        have HA : Hid (ordI x y ≠ 0 → ordL xs ys = ordI x y) := fun hz => by
          have := ord_at HS.out (by rw [← HN.out]; exact hl1) (by rw [← HM.out]; exact hl2) (by rw [← HX.out, ← HY.out]; exact hz)
          rw [← HX.out, ← HY.out] at this
          exact this
        by_cases h1 : x < y
        · go_wp2
          go_quiet (fail)
          go_wp2
          go_ret
          exact ⟨-1, rfl, by rw [HA.out (by unfold ordI; rw [if_pos h1]; decide)]; unfold ordI; rw [if_pos h1]; rfl, by first | exact Drew.more (Drew.refl _) _ | exact Drew.more (Drew.more (Drew.refl _) _) _⟩
        · by_cases h2 : y < x
          · go_wp2
            go_quiet (fail)
            go_wp2
            go_quiet (fail)
            go_wp2
            go_ret
            exact ⟨1, rfl, by rw [HA.out (by unfold ordI; rw [if_neg (by omega), if_pos h2]; decide)]; unfold ordI; rw [if_neg (by omega), if_pos (by omega), if_neg (by omega), if_pos h2], by first | exact Drew.more (Drew.refl _) _ | exact Drew.more (Drew.more (Drew.refl _) _) _ | exact Drew.more (Drew.more (Drew.more (Drew.refl _) _) _) _⟩
          · have HXY : Hid (x = y) := by show x = y; omega
            go_wp2
            go_quiet (fail)
            go_wp2
            go_quiet (fail)
            go_wp2
            go_roundw
            case rel => exact ⟨k + 1, _, by omega, by omega, by go_num, rfl, fun j hj => by
              rcases Nat.lt_succ_iff_lt_or_eq.1 hj with h | h
              · exact HS.out j h
              · rw [h, ← HX.out, ← HY.out]; exact HXY.out⟩
            case measure => simp [intOf]; omega
      · have HE : Hid (ordL xs ys = ordN n m) := by
          have := ord_end HS.out (by rw [← HN.out]; exact hkn) (by rw [← HM.out]; exact hkm) (by rw [← HN.out, ← HM.out]; omega)
          rw [← HN.out, ← HM.out] at this
          exact this
        clear hc hc2
        go_wp2
        go_ret
        exact ⟨(n : Int) - m, rfl, by rw [HE.out, ord_sub], Drew.more (Drew.refl _) _⟩
    · have HE : Hid (ordL xs ys = ordN n m) := by
        have := ord_end HS.out (by rw [← HN.out]; exact hkn) (by rw [← HM.out]; exact hkm) (by rw [← HN.out, ← HM.out]; omega)
        rw [← HN.out, ← HM.out] at this
        exact this
      clear hc hc2
      go_wp2
      go_ret
      exact ⟨(n : Int) - m, rfl, by rw [HE.out, ord_sub], Drew.more (Drew.refl _) _⟩

theorem l1Order_left (a : Option Addr) (cap : Nat) (a2 : Option Addr) (m cap2 : Nat) (w : World) (hm : m ≤ 140737488355328) :
    Calls Tryz.prog 93 #[.slice a 0 cap, .slice a2 m cap2] w fun e w' => e = .returned (.int .i64 ((0 : Nat) - (m : Int))) ∧ w' = w := by
  go_enter Tryz.func93, Tryz.ntmps93
  go_wp2
  refine wp_loop_rounds 1 ?_
  rw [rounds_succ]
  go_wp2
  go_ret
  exact ⟨ret_int (by omega), rfl⟩
theorem l1Order_right (a : Option Addr) (n cap : Nat) (a2 : Option Addr) (cap2 : Nat) (w : World) (hn : n ≤ 140737488355328) :
    Calls Tryz.prog 93 #[.slice a n cap, .slice a2 0 cap2] w fun e w' => e = .returned (.int .i64 ((n : Int) - (0 : Nat))) ∧ w' = w := by
  by_cases h0 : 0 < n
  · go_enter Tryz.func93, Tryz.ntmps93
    go_wp2
    refine wp_loop_rounds 1 ?_
    rw [rounds_succ]
    go_wp2
    go_ret
    exact ⟨ret_int (by omega), rfl⟩
  · obtain rfl : n = 0 := by omega
    exact l1Order_left a cap a2 0 cap2 w (by omega)

theorem l1Order_q (v v2 : Value) (xs ys : List Int) (w : World) (h : IntsAt w v xs) (h2 : IntsAt w v2 ys) :
    Calls Tryz.prog 93 #[v, v2] w fun e w' => ∃ d : Int, e = .returned (.int .i64 d) ∧ ordI d 0 = ordL xs ys ∧ Drew w w' := by
  rcases h.cases with ⟨a, cap, rfl, rfl⟩ | ⟨b, off, cap, hpos, hlim, rfl, hbw, hc⟩
  · obtain ⟨hl, a2, cap2, rfl, _⟩ := h2
    refine (l1Order_left a cap a2 _ cap2 w hl).mono fun e w' ⟨he, hw⟩ => ⟨_, he, ?_, ?_⟩
    · rw [ordL_nil, ord_sub, ordN_eq]; rfl
    · rw [hw]; exact Drew.refl _
  · rcases h2.cases with ⟨a2, cap2, rfl, rfl⟩ | ⟨b2, off2, cap2, hpos2, hlim2, rfl, _, hc2⟩
    · refine (l1Order_right _ _ cap a2 cap2 w hlim).mono fun e w' ⟨he, hw⟩ => ⟨_, he, ?_, ?_⟩
      · rw [ordL_nil', ord_sub, ordN_eq]; rfl
      · rw [hw]; exact Drew.refl _
    · exact l1Order_some b off cap b2 off2 cap2 xs ys w hpos hlim hpos2 hlim2 hc hc2

/-- The two rows are one; the first is ahead. -/
def rowSameB (xs ys : List Int) : Bool := ordL xs ys == 0
def rowLessB (xs ys : List Int) : Bool := decide (ordL xs ys < 0)

theorem same_of_ord {d : Int} {xs ys : List Int} (h : ordI d 0 = ordL xs ys) : (d == 0) = rowSameB xs ys := by
  unfold rowSameB
  rw [← h]
  unfold ordI
  by_cases h1 : d < 0
  · rw [if_pos h1]
    have : (d == 0) = false := by simp; omega
    rw [this]; rfl
  · rw [if_neg h1]
    by_cases h2 : 0 < d
    · rw [if_pos h2]
      have : (d == 0) = false := by simp; omega
      rw [this]; rfl
    · rw [if_neg h2]
      have : d = 0 := by omega
      subst this; rfl
theorem less_of_ord {d : Int} {xs ys : List Int} (h : ordI d 0 = ordL xs ys) : decide (d < 0) = rowLessB xs ys := by
  unfold rowLessB
  rw [← h]
  unfold ordI
  by_cases h1 : d < 0
  · rw [if_pos h1]; simp [h1]
  · rw [if_neg h1]
    by_cases h2 : 0 < d
    · rw [if_pos h2]; simp [h1]
    · rw [if_neg h2]; simp [h1]

theorem specRowSame_q (v v2 : Value) (xs ys : List Int) (w : World) (h : IntsAt w v xs) (h2 : IntsAt w v2 ys) :
    Calls Tryz.prog 63 #[v, v2] w fun e w' => e = .returned (.bool (rowSameB xs ys)) ∧ Drew w w' := by
  go_enter Tryz.func63, Tryz.ntmps63
  go_wp2_with fail
  refine (l1Order_q v v2 xs ys _ h h2).mono ?_
  rintro e w' ⟨d, rfl, hd, hb⟩
  have HD : Hid (ordI d 0 = ordL xs ys) := hd
  clear hd h h2
  go_wp2
  go_ret
  exact ⟨ret_bool (same_of_ord HD.out), hb⟩
theorem specRowSame_any (v v2 : Value) (xs ys : List Int) (w : World) (h : IntsAt w v xs) (h2 : IntsAt w v2 ys) :
    Calls Tryz.prog 63 #[v, v2] w fun e w' => e = .returned (.bool (rowSameB xs ys)) ∧ Below w.heap.size w w' :=
  (specRowSame_q v v2 xs ys w h h2).mono fun _ _ ⟨h1, h2⟩ => ⟨h1, h2.below⟩

theorem specRowLess_q (v v2 : Value) (xs ys : List Int) (w : World) (h : IntsAt w v xs) (h2 : IntsAt w v2 ys) :
    Calls Tryz.prog 53 #[v, v2] w fun e w' => e = .returned (.bool (rowLessB xs ys)) ∧ Drew w w' := by
  go_enter Tryz.func53, Tryz.ntmps53
  go_wp2_with fail
  refine (l1Order_q v v2 xs ys _ h h2).mono ?_
  rintro e w' ⟨d, rfl, hd, hb⟩
  have HD : Hid (ordI d 0 = ordL xs ys) := hd
  clear hd h h2
  go_wp2
  go_ret
  exact ⟨ret_bool (less_of_ord HD.out), hb⟩
theorem specRowLess_any (v v2 : Value) (xs ys : List Int) (w : World) (h : IntsAt w v xs) (h2 : IntsAt w v2 ys) :
    Calls Tryz.prog 53 #[v, v2] w fun e w' => e = .returned (.bool (rowLessB xs ys)) ∧ Below w.heap.size w w' :=
  (specRowLess_q v v2 xs ys w h h2).mono fun _ _ ⟨h1, h2⟩ => ⟨h1, h2.below⟩

theorem implRowSame_q (v v2 : Value) (xs ys : List Int) (w : World) (h : IntsAt w v xs) (h2 : IntsAt w v2 ys) :
    Calls Tryz.prog 94 #[v, v2] w fun e w' => e = .returned (.bool (rowSameB xs ys)) ∧ Drew w w' := by
  go_enter Tryz.func94, Tryz.ntmps94
  go_wp2_with fail
  refine (compareRows_q v v2 xs ys _ h h2).mono ?_
  rintro e w' ⟨rfl, hb⟩
  clear h h2
  go_wp2
  go_ret
  exact ⟨rfl, hb⟩
theorem implRowSame_any (v v2 : Value) (xs ys : List Int) (w : World) (h : IntsAt w v xs) (h2 : IntsAt w v2 ys) :
    Calls Tryz.prog 94 #[v, v2] w fun e w' => e = .returned (.bool (rowSameB xs ys)) ∧ Below w.heap.size w w' :=
  (implRowSame_q v v2 xs ys w h h2).mono fun _ _ ⟨h1, h2⟩ => ⟨h1, h2.below⟩

theorem implRowLess_q (v v2 : Value) (xs ys : List Int) (w : World) (h : IntsAt w v xs) (h2 : IntsAt w v2 ys) :
    Calls Tryz.prog 19 #[v, v2] w fun e w' => e = .returned (.bool (rowLessB xs ys)) ∧ Drew w w' := by
  go_enter Tryz.func19, Tryz.ntmps19
  go_wp2_with fail
  refine (compareRows_q v v2 xs ys _ h h2).mono ?_
  rintro e w' ⟨rfl, hb⟩
  clear h h2
  go_wp2
  go_ret
  exact ⟨rfl, hb⟩
theorem implRowLess_any (v v2 : Value) (xs ys : List Int) (w : World) (h : IntsAt w v xs) (h2 : IntsAt w v2 ys) :
    Calls Tryz.prog 19 #[v, v2] w fun e w' => e = .returned (.bool (rowLessB xs ys)) ∧ Below w.heap.size w w' :=
  (implRowLess_q v v2 xs ys w h h2).mono fun _ _ ⟨h1, h2⟩ => ⟨h1, h2.below⟩

end Go.Proofs.YtkgopbffgahhcaaGreatDoor

/-
  Plain facts on the order of lists: total, antisymmetric, transitive; a list is ahead of what begins with it; two lists are one just if they stand equal.
-/
namespace Go.Proofs.YtkgopbffgahhcaaGreatDoor

theorem ordL_cases : ∀ xs ys : List Int, (ordL xs ys = -1 ∧ ordL ys xs = 1) ∨ (ordL xs ys = 0 ∧ ordL ys xs = 0 ∧ xs = ys) ∨ (ordL xs ys = 1 ∧ ordL ys xs = -1)
  | [], [] => .inr (.inl ⟨rfl, rfl, rfl⟩)
  | [], _ :: _ => .inl ⟨rfl, rfl⟩
  | _ :: _, [] => .inr (.inr ⟨rfl, rfl⟩)
  | x :: xs, y :: ys => by
    simp only [ordL]
    by_cases h1 : x < y
    · have h2 : ¬ y < x := by omega
      simp [h1, h2]
    · by_cases h2 : y < x
      · simp [h1, h2]
      · have e : x = y := by omega
        subst e
        simp only [h1, if_false]
        rcases ordL_cases xs ys with h | ⟨a, b, c⟩ | h
        · exact .inl h
        · exact .inr (.inl ⟨a, b, by rw [c]⟩)
        · exact .inr (.inr h)

theorem ordL_self (xs : List Int) : ordL xs xs = 0 := by
  rcases ordL_cases xs xs with h | h | h
  · omega
  · exact h.1
  · omega

theorem ordL_trans : ∀ xs ys zs : List Int, ordL xs ys = -1 → ordL ys zs = -1 → ordL xs zs = -1
  | [], [], _, h, _ => by simp [ordL] at h
  | [], _ :: _, [], _, h => by simp [ordL] at h
  | [], _ :: _, _ :: _, _, _ => rfl
  | _ :: _, [], _, h, _ => by simp [ordL] at h
  | _ :: _, _ :: _, [], _, h => by simp [ordL] at h
  | x :: xs, y :: ys, z :: zs, h1, h2 => by
    simp only [ordL] at h1 h2 ⊢
    by_cases a : x < y
    · by_cases b : y < z
      · rw [if_pos (by omega)]
      · by_cases c : z < y
        · simp [b, c] at h2
        · have e : y = z := by omega
          subst e
          rw [if_pos a]
    · by_cases a2 : y < x
      · simp [a, a2] at h1
      · have e : x = y := by omega
        subst e
        simp only [a, if_false] at h1
        by_cases b : x < z
        · rw [if_pos b]
        · by_cases c : z < x
          · simp [b, c] at h2
          · simp only [b, c, if_false] at h2 ⊢
            exact ordL_trans xs ys zs h1 h2

theorem ordL_append : ∀ (xs ys : List Int), ys ≠ [] → ordL xs (xs ++ ys) = -1
  | [], [], h => absurd rfl h
  | [], _ :: _, _ => rfl
  | x :: xs, ys, h => by
    simp only [List.cons_append, ordL]
    have : ¬ x < x := by omega
    simp only [this, if_false]
    exact ordL_append xs ys h

theorem same_iff (xs ys : List Int) : rowSameB xs ys = decide (xs = ys) := by
  unfold rowSameB
  rcases ordL_cases xs ys with h | h | h
  · have : xs ≠ ys := fun e => by subst e; rw [ordL_self] at h; omega
    simp [h.1, this]
  · simp [h.2.2, ordL_self]
  · have : xs ≠ ys := fun e => by subst e; rw [ordL_self] at h; omega
    simp [h.1, this]
theorem same_self (xs : List Int) : rowSameB xs xs = true := by rw [same_iff]; simp
/-- One of three: ahead, the same, behind. -/
theorem three (xs ys : List Int) : (rowLessB xs ys = true ∧ rowLessB ys xs = false ∧ rowSameB xs ys = false) ∨ (rowLessB xs ys = false ∧ rowLessB ys xs = false ∧ rowSameB xs ys = true ∧ xs = ys) ∨ (rowLessB xs ys = false ∧ rowLessB ys xs = true ∧ rowSameB xs ys = false) := by
  unfold rowLessB rowSameB
  rcases ordL_cases xs ys with h | h | h
  · left; simp [h.1, h.2]
  · right; left; simp [h.2.2, ordL_self]
  · right; right; simp [h.1, h.2]
theorem less_trans {xs ys zs : List Int} (h1 : rowLessB xs ys = true) (h2 : rowLessB ys zs = true) : rowLessB xs zs = true := by
  unfold rowLessB at *
  simp only [decide_eq_true_eq] at *
  have a : ordL xs ys = -1 := by rcases ordL_cases xs ys with h | h | h <;> omega
  have b : ordL ys zs = -1 := by rcases ordL_cases ys zs with h | h | h <;> omega
  rw [ordL_trans xs ys zs a b]; decide
theorem less_append {xs ys : List Int} (h : ys ≠ []) : rowLessB xs (xs ++ ys) = true := by
  unfold rowLessB; rw [ordL_append xs ys h]; decide
theorem same_append {xs ys zs us : List Int} (h : xs.length = zs.length) : rowSameB (xs ++ ys) (zs ++ us) = (rowSameB xs zs && rowSameB ys us) := by
  rw [same_iff, same_iff, same_iff]
  by_cases h1 : xs = zs
  · subst h1; simp
  · have : xs ++ ys ≠ zs ++ us := fun e => h1 (List.append_inj_left e h)
    simp [h1, this]

end Go.Proofs.YtkgopbffgahhcaaGreatDoor

/-
  Items (a row and a weight) in memory: a slice of such pairs as a list, and that list in a later memory; the contracts of ZOk on both sides: both answer zOkB, at all items.
-/
namespace Go.Proofs.YtkgopbffgahhcaaGreatDoor
open Go.RowKit

theorem below_alloc {w : World} (o : Obj) : Below w.heap.size w (w.alloc o) := (Below.refl _ _).alloc (Nat.le_refl _) _
theorem below_then {w a b : World} (h : Below w.heap.size w a) (k : Below a.heap.size a b) : Below w.heap.size w b := h.trans (k.mono h.size)
theorem IntsAt.alloc {w : World} {v : Value} {xs : List Int} (h : IntsAt w v xs) (o : Obj) : IntsAt (w.alloc o) v xs := h.below (below_alloc o)
theorem IntsAt.drewN {w : World} {v : Value} {xs : List Int} (h : IntsAt w v xs) (n : Nat) : IntsAt (w.drewN n) v xs := h.below (below_drewN (Below.refl _ _) _)
theorem IntsAt.shape {w : World} {v : Value} {xs : List Int} (h : IntsAt w v xs) : ∃ a n cap, v = .slice a n cap := by
  obtain ⟨_, a, cap, rfl, _⟩ := h
  exact ⟨_, _, _, rfl⟩

abbrev It := List Int × Int

/-- The value v is a slice of items whose elements, in the memory w, are zs. -/
def ItemsAt (w : World) (v : Value) (zs : List It) : Prop :=
  zs.length ≤ 140737488355328 ∧ ∃ (a : Option Addr) (cap : Nat), v = .slice a zs.length cap ∧ (a = none → cap = 0) ∧
    (zs ≠ [] → ∃ b off, a = some ⟨b, off, none⟩ ∧ b < w.heap.size ∧ ∀ j, j < zs.length → ∃ rv, w.cell? ⟨b, off + j * 2, none⟩ = some rv ∧ w.cell? ⟨b, off + j * 2 + 1, none⟩ = some (.int .i64 (zs.getD j ([], 0)).2) ∧ IntsAt w rv (zs.getD j ([], 0)).1)

theorem ItemsAt.below {w w' : World} {v : Value} {zs : List It} (h : ItemsAt w v zs) (hb : Below w.heap.size w w') : ItemsAt w' v zs := by
  obtain ⟨hl, a, cap, rfl, hn, hc⟩ := h
  refine ⟨hl, a, cap, rfl, hn, fun hne => ?_⟩
  obtain ⟨b, off, rfl, hbl, hcell⟩ := hc hne
  refine ⟨b, off, rfl, Nat.lt_of_lt_of_le hbl hb.size, fun j hj => ?_⟩
  obtain ⟨rv, h1, h2, h3⟩ := hcell j hj
  exact ⟨rv, (hb.cell (p := ⟨b, off + j * 2, none⟩) hbl).trans h1, (hb.cell (p := ⟨b, off + j * 2 + 1, none⟩) hbl).trans h2, h3.below hb⟩

theorem ItemsAt.cases {w : World} {v : Value} {zs : List It} (h : ItemsAt w v zs) :
    (∃ a cap, zs = [] ∧ v = .slice a 0 cap) ∨
    (∃ b off cap, 0 < zs.length ∧ zs.length ≤ 140737488355328 ∧ v = .slice (some ⟨b, off, none⟩) zs.length cap ∧ b < w.heap.size ∧ ∀ j, j < zs.length → ∃ rv, w.cell? ⟨b, off + j * 2, none⟩ = some rv ∧ w.cell? ⟨b, off + j * 2 + 1, none⟩ = some (.int .i64 (zs.getD j ([], 0)).2) ∧ IntsAt w rv (zs.getD j ([], 0)).1) := by
  obtain ⟨hl, a, cap, rfl, _, hc⟩ := h
  by_cases hx : zs = []
  · subst hx
    exact .inl ⟨a, cap, rfl, rfl⟩
  · obtain ⟨b, off, rfl, hbl, hcell⟩ := hc hx
    exact .inr ⟨b, off, cap, List.length_pos_iff.2 hx, hl, rfl, hbl, hcell⟩

/-- A weight that is right. -/
def wB (n : Int) : Bool := decide (n ≠ 0 ∧ -10000 ≤ n ∧ n ≤ 10000)
/-- What is asked at place k. -/
def stepB (zs : List It) (k : Nat) : Bool := rowOkB (zs.getD k ([], 0)).1 && wB (zs.getD k ([], 0)).2 && (decide (k = 0) || rowLessB (zs.getD (k - 1) ([], 0)).1 (zs.getD k ([], 0)).1)
/-- Items that are right. -/
def zOkB (zs : List It) : Bool := decide (zs.length ≤ 100) && (List.range zs.length).all (stepB zs)

theorem zOk_len {zs : List It} (h : ¬ zs.length ≤ 100) : zOkB zs = false := by simp [zOkB, h]
theorem zOk_miss {zs : List It} {k : Nat} (hk : k < zs.length) (h : stepB zs k = false) : zOkB zs = false := by
  have : (List.range zs.length).all (stepB zs) = false := by
    rw [List.all_eq_false]
    exact ⟨k, List.mem_range.2 hk, by simp [h]⟩
  simp [zOkB, this]
theorem zOk_all {zs : List It} (hl : zs.length ≤ 100) (h : ∀ j, j < zs.length → stepB zs j = true) : zOkB zs = true := by
  have : (List.range zs.length).all (stepB zs) = true := by
    rw [List.all_eq_true]
    exact fun k hk => h k (List.mem_range.1 hk)
  simp [zOkB, this, hl]

theorem wB_yes {n : Int} (h0 : n ≠ 0) (h1 : -10000 ≤ n) (h2 : n ≤ 10000) : wB n = true := by simp [wB, h0, h1, h2]
theorem wB_no {n : Int} (h : ¬ (n ≠ 0 ∧ -10000 ≤ n ∧ n ≤ 10000)) : wB n = false := by simp only [wB, h, decide_false]

theorem weightFits_any (n : Int) (w : World) : Calls Tryz.prog 62 #[.int .i64 n] w fun e w' => e = .returned (.bool (wB n)) ∧ w' = w := by
  by_cases h0 : n = 0
  · subst h0
    go_enter Tryz.func62, Tryz.ntmps62
    go_wp2
    go_ret
    exact ⟨rfl, rfl⟩
  · have hne : (n != 0) = true := by simp [h0]
    by_cases h1 : -10000 ≤ n
    · by_cases h2 : n ≤ 10000
      · go_enter Tryz.func62, Tryz.ntmps62
        go_wp2
        go_ret
        exact ⟨ret_bool (wB_yes h0 h1 h2).symm, rfl⟩
      · go_enter Tryz.func62, Tryz.ntmps62
        go_wp2
        go_ret
        exact ⟨ret_bool (wB_no (by omega)).symm, rfl⟩
    · go_enter Tryz.func62, Tryz.ntmps62
      go_wp2
      go_ret
      exact ⟨ret_bool (wB_no (by omega)).symm, rfl⟩

theorem l2W_any (n : Int) (w : World) : Calls Tryz.prog 52 #[.int .i64 n] w fun e w' => e = .returned (.bool (wB n)) ∧ w' = w := by
  by_cases h0 : n = 0
  · subst h0
    go_enter Tryz.func52, Tryz.ntmps52
    go_wp2
    go_ret
    exact ⟨rfl, rfl⟩
  · have hne : (n != 0) = true := by simp [h0]
    by_cases h1 : -10000 ≤ n
    · by_cases h2 : n ≤ 10000
      · go_enter Tryz.func52, Tryz.ntmps52
        go_wp2
        go_ret
        exact ⟨ret_bool (wB_yes h0 h1 h2).symm, rfl⟩
      · go_enter Tryz.func52, Tryz.ntmps52
        go_wp2
        go_ret
        exact ⟨ret_bool (wB_no (by omega)).symm, rfl⟩
    · go_enter Tryz.func52, Tryz.ntmps52
      go_wp2
      go_ret
      exact ⟨ret_bool (wB_no (by omega)).symm, rfl⟩

def rowsLen (zs : List It) : Nat := (zs.map (·.1.length)).sum

end Go.Proofs.YtkgopbffgahhcaaGreatDoor

/-
  The contracts of spec.ZOk and impl.ZOk: both answer zOkB, at all items.
-/
namespace Go.Proofs.YtkgopbffgahhcaaGreatDoor
open Go.RowKit


theorem specRowOk_val {v : Value} {xs : List Int} {c : Bool} (hr : rowOkB xs = c) {w : World} (h : IntsAt w v xs) : Calls Tryz.prog 51 #[v] w fun e w' => e = .returned (.bool c) ∧ w' = w := hr ▸ specRowOk_any v xs w h
theorem implRowOk_val {v : Value} {xs : List Int} {c : Bool} (hr : rowOkB xs = c) {w : World} (h : IntsAt w v xs) : Calls Tryz.prog 61 #[v] w fun e w' => e = .returned (.bool c) ∧ w' = w := hr ▸ implRowOk_any v xs w h
theorem specRowLess_val {v v2 : Value} {xs ys : List Int} {c : Bool} (hr : rowLessB xs ys = c) {w : World} (h : IntsAt w v xs) (h2 : IntsAt w v2 ys) : Calls Tryz.prog 53 #[v, v2] w fun e w' => e = .returned (.bool c) ∧ Drew w w' := hr ▸ specRowLess_q v v2 xs ys w h h2
theorem implRowLess_val {v v2 : Value} {xs ys : List Int} {c : Bool} (hr : rowLessB xs ys = c) {w : World} (h : IntsAt w v xs) (h2 : IntsAt w v2 ys) : Calls Tryz.prog 19 #[v, v2] w fun e w' => e = .returned (.bool c) ∧ Drew w w' := hr ▸ implRowLess_q v v2 xs ys w h h2
theorem l2W_val {n : Int} {c : Bool} (hr : wB n = c) {w : World} : Calls Tryz.prog 52 #[.int .i64 n] w fun e w' => e = .returned (.bool c) ∧ w' = w := hr ▸ l2W_any n w
theorem weightFits_val {n : Int} {c : Bool} (hr : wB n = c) {w : World} : Calls Tryz.prog 62 #[.int .i64 n] w fun e w' => e = .returned (.bool c) ∧ w' = w := hr ▸ weightFits_any n w

set_option maxHeartbeats 2000000 in
theorem specZOk_some (b off cap : Nat) (zs : List It) (w : World) (hpos : 0 < zs.length) (hlim : zs.length ≤ 140737488355328) (hbw : b < w.heap.size)
    (hc : ∀ j, j < zs.length → ∃ rv, w.cell? ⟨b, off + j * 2, none⟩ = some rv ∧ w.cell? ⟨b, off + j * 2 + 1, none⟩ = some (.int .i64 (zs.getD j ([], 0)).2) ∧ IntsAt w rv (zs.getD j ([], 0)).1) :
    Calls Tryz.prog 11 #[.slice (some ⟨b, off, none⟩) zs.length cap] w fun e w' => e = .returned (.bool (zOkB zs)) ∧ Drew w w' := by
  obtain ⟨n, hn⟩ : ∃ n, n = zs.length := ⟨_, rfl⟩
  have HN : Hid (n = zs.length) := hn
  rw [← hn] at hpos hlim hc ⊢
  clear hn
  by_cases h100 : n ≤ 100
  · go_enter Tryz.func11, Tryz.ntmps11
    go_wp2
    go_loopw [3] (fun i wr => ∃ k : Nat, k ≤ n ∧ i = .int .i64 k ∧ Hid (Drew w wr) ∧ Hid (∀ j, j < k → stepB zs j = true)) (fun i _ => n - (intOf i).toNat)
    case atStart => exact ⟨0, Nat.zero_le _, rfl, Drew.refl _, fun j hj => by omega⟩
    case round =>
      obtain ⟨k, hk, rfl, HW, HS⟩ := hrel
      by_cases hlt : k < n
      · have HB := HW.out.below
        obtain ⟨rv, hrv0, hwt0, hix0⟩ := hc k hlt
        have hrv := (HB.cell (p := ⟨b, off + k * 2, none⟩) hbw).trans hrv0
        have hwt := (HB.cell (p := ⟨b, off + k * 2 + 1, none⟩) hbw).trans hwt0
        have hix := hix0.below HB
        clear hrv0 hwt0 hix0
        obtain ⟨x, HX⟩ : ∃ x, Hid (x = (zs.getD k ([], 0)).1) := ⟨_, rfl⟩
        obtain ⟨y, HY⟩ : ∃ y, Hid (y = (zs.getD k ([], 0)).2) := ⟨_, rfl⟩
        rw [← HX.out] at hix
        rw [← HY.out] at hwt
        cases hr : rowOkB x with
        | false =>
          clear hc HB
          go_wp2
          go_quiet (first | (go_at_call 51; exact Calls.quiet_of_same (specRowOk_val hr (hix.drewN _))))
          go_wp2
          go_ret
          exact ⟨ret_bool (zOk_miss (by rw [← HN.out]; exact hlt) (by unfold stepB; rw [← HX.out, hr]; rfl)).symm, HW.out.more _⟩
        | true =>
          cases hw : wB y with
          | false =>
            clear hc HB
            go_wp2
            go_quiet (first | (go_at_call 51; exact Calls.quiet_of_same (specRowOk_val hr (hix.drewN _))) | (go_at_call 52; exact Calls.quiet_of_same (l2W_val hw)))
            go_wp2
            go_ret
            exact ⟨ret_bool (zOk_miss (by rw [← HN.out]; exact hlt) (by unfold stepB; rw [← HY.out, hw, Bool.and_false]; rfl)).symm, HW.out.more _⟩
          | true =>
            by_cases hk0 : k = 0
            · have HK : Hid (k = 0) := hk0
              have hd : decide (0 < k) = false := by rw [decide_eq_false_iff_not]; omega
              clear hc HB hk0
              go_wp2
              go_quiet (first | (go_at_call 51; exact Calls.quiet_of_same (specRowOk_val hr (hix.drewN _))) | (go_at_call 52; exact Calls.quiet_of_same (l2W_val hw)))
              go_wp2
              go_roundw
              case rel => exact ⟨k + 1, by omega, by go_num, HW.out.more _, fun j hj => by
                obtain rfl : j = k := by have := HK.out; omega
                unfold stepB; rw [← HX.out, ← HY.out, hr, hw, HK.out]; rfl⟩
              case measure => simp [intOf]; omega
            · obtain ⟨p, rfl⟩ : ∃ p, k = p + 1 := ⟨k - 1, by omega⟩
              obtain ⟨rv', hrv0', _, hix0'⟩ := hc p (by omega)
              have hrv' := (HB.cell (p := ⟨b, off + p * 2, none⟩) hbw).trans hrv0'
              have hix' := hix0'.below HB
              clear hrv0' hix0' hc HB
              obtain ⟨x', HX'⟩ : ∃ x, Hid (x = (zs.getD p ([], 0)).1) := ⟨_, rfl⟩
              rw [← HX'.out] at hix'
              cases hle : rowLessB x' x with
              | false =>
                go_wp2
                go_quiet (first | (go_at_call 51; exact Calls.quiet_of_same (specRowOk_val hr (hix.drewN _))) | (go_at_call 52; exact Calls.quiet_of_same (l2W_val hw)) | (go_at_call 53; exact Calls.quiet_of (specRowLess_val hle (hix'.drewN _) (hix.drewN _))))
                go_wp2
                go_ret
                exact ⟨ret_bool (zOk_miss (by rw [← HN.out]; exact hlt) (by unfold stepB; rw [Nat.add_sub_cancel, ← HX.out, ← HX'.out, hle]; simp)).symm, HW.out.more _⟩
              | true =>
                go_wp2
                go_quiet (first | (go_at_call 51; exact Calls.quiet_of_same (specRowOk_val hr (hix.drewN _))) | (go_at_call 52; exact Calls.quiet_of_same (l2W_val hw)) | (go_at_call 53; exact Calls.quiet_of (specRowLess_val hle (hix'.drewN _) (hix.drewN _))))
                go_wp2
                go_roundw
                case rel => exact ⟨p + 1 + 1, by omega, by go_num, HW.out.more _, fun j hj => by
                  rcases Nat.lt_succ_iff_lt_or_eq.1 hj with h | h
                  · exact HS.out j h
                  · subst h; unfold stepB; rw [Nat.add_sub_cancel, ← HX.out, ← HY.out, ← HX'.out, hr, hw, hle]; simp⟩
                case measure => simp [intOf]; omega
      · have e : k = n := by omega
        subst e
        clear hc
        go_wp2
        go_ret
        exact ⟨ret_bool (zOk_all (by rw [← HN.out]; exact h100) (by rw [← HN.out]; exact HS.out)).symm, HW.out⟩
  · go_enter Tryz.func11, Tryz.ntmps11
    go_wp2
    go_ret
    exact ⟨ret_bool (zOk_len (by rw [← HN.out]; exact h100)).symm, Drew.refl _⟩

theorem specZOk_none (a : Option Addr) (cap : Nat) (w : World) :
    Calls Tryz.prog 11 #[.slice a 0 cap] w fun e w' => e = .returned (.bool (zOkB [])) ∧ Drew w w' := by
  go_enter Tryz.func11, Tryz.ntmps11
  go_wp2
  refine wp_loop_rounds 1 ?_
  rw [rounds_succ]
  go_wp2
  go_ret
  exact ⟨rfl, Drew.refl _⟩

theorem specZOk_any (v : Value) (zs : List It) (w : World) (h : ItemsAt w v zs) :
    Calls Tryz.prog 11 #[v] w fun e w' => e = .returned (.bool (zOkB zs)) ∧ Drew w w' := by
  rcases h.cases with ⟨a, cap, rfl, rfl⟩ | ⟨b, off, cap, hpos, hlim, rfl, hbw, hc⟩
  · exact specZOk_none a cap w
  · exact specZOk_some b off cap zs w hpos hlim hbw hc


set_option maxHeartbeats 2000000 in
theorem implZOk_some (b off cap : Nat) (zs : List It) (w : World) (hpos : 0 < zs.length) (hlim : zs.length ≤ 140737488355328) (hbw : b < w.heap.size)
    (hc : ∀ j, j < zs.length → ∃ rv, w.cell? ⟨b, off + j * 2, none⟩ = some rv ∧ w.cell? ⟨b, off + j * 2 + 1, none⟩ = some (.int .i64 (zs.getD j ([], 0)).2) ∧ IntsAt w rv (zs.getD j ([], 0)).1) :
    Calls Tryz.prog 16 #[.slice (some ⟨b, off, none⟩) zs.length cap] w fun e w' => e = .returned (.bool (zOkB zs)) ∧ Below w.heap.size w w' := by
  obtain ⟨n, hn⟩ : ∃ n, n = zs.length := ⟨_, rfl⟩
  have HN : Hid (n = zs.length) := hn
  rw [← hn] at hpos hlim hc ⊢
  clear hn
  by_cases h100 : n ≤ 100
  · go_enter Tryz.func16, Tryz.ntmps16
    go_wp2
    go_loopw [10] (fun i wr => ∃ k : Nat, k ≤ n ∧ i = .int .i64 k ∧ Hid (Below w.heap.size w wr) ∧ Hid (∀ j, j < k → stepB zs j = true)) (fun i _ => n - (intOf i).toNat)
    case atStart => exact ⟨0, Nat.zero_le _, rfl, Below.refl _ _, fun j hj => by omega⟩
    case round =>
      obtain ⟨k, hk, rfl, HW, HS⟩ := hrel
      by_cases hlt : k < n
      · have HB := HW.out
        obtain ⟨rv, hrv0, hwt0, hix0⟩ := hc k hlt
        have hrv := (HB.cell (p := ⟨b, off + k * 2, none⟩) hbw).trans hrv0
        have hwt := (HB.cell (p := ⟨b, off + k * 2 + 1, none⟩) hbw).trans hwt0
        have hix := hix0.below HB
        have hbr : b < wr.heap.size := Nat.lt_of_lt_of_le hbw HB.size
        clear hrv0 hwt0 hix0
        obtain ⟨x, HX⟩ : ∃ x, Hid (x = (zs.getD k ([], 0)).1) := ⟨_, rfl⟩
        obtain ⟨y, HY⟩ : ∃ y, Hid (y = (zs.getD k ([], 0)).2) := ⟨_, rfl⟩
        rw [← HX.out] at hix
        rw [← HY.out] at hwt
        obtain ⟨ra, rn, rc, rfl⟩ := hix.shape
        cases hr : rowOkB x with
        | false =>
          clear hc HB
          go_wp2_with (go_at_call 61; refine (implRowOk_val hr (hix.alloc _)).mono ?_; rintro e w' ⟨rfl, rfl⟩)
          go_ret
          exact ⟨ret_bool (zOk_miss (by rw [← HN.out]; exact hlt) (by unfold stepB; rw [← HX.out, hr]; rfl)).symm, below_then HW.out (below_alloc _)⟩
        | true =>
          cases hw : wB y with
          | false =>
            clear hc HB
            go_wp2_with (first | (go_at_call 61; refine (implRowOk_val hr (hix.alloc _)).mono ?_; rintro e w' ⟨rfl, rfl⟩) | (go_at_call 62; refine (weightFits_val hw).mono ?_; rintro e w' ⟨rfl, rfl⟩))
            go_ret
            exact ⟨ret_bool (zOk_miss (by rw [← HN.out]; exact hlt) (by unfold stepB; rw [← HY.out, hw, Bool.and_false]; rfl)).symm, below_then HW.out (below_alloc _)⟩
          | true =>
            by_cases hk0 : k = 0
            · have HK : Hid (k = 0) := hk0
              have hd : decide (0 < k) = false := by rw [decide_eq_false_iff_not]; omega
              clear hc HB hk0
              go_wp2_with (first | (go_at_call 61; refine (implRowOk_val hr (hix.alloc _)).mono ?_; rintro e w' ⟨rfl, rfl⟩) | (go_at_call 62; refine (weightFits_val hw).mono ?_; rintro e w' ⟨rfl, rfl⟩))
              go_quiet (fail)
              go_wp2
              go_roundw
              case rel => exact ⟨k + 1, by omega, by go_num, below_then HW.out (below_then (below_alloc _) (below_drewN (Below.refl _ _) _)), fun j hj => by
                obtain rfl : j = k := by have := HK.out; omega
                unfold stepB; rw [← HX.out, ← HY.out, hr, hw, HK.out]; rfl⟩
              case measure => simp [intOf]; omega
            · obtain ⟨p, rfl⟩ : ∃ p, k = p + 1 := ⟨k - 1, by omega⟩
              obtain ⟨rv', hrv0', _, hix0'⟩ := hc p (by omega)
              have hrv' := (HB.cell (p := ⟨b, off + p * 2, none⟩) hbw).trans hrv0'
              have hix' := hix0'.below HB
              clear hrv0' hix0' hc HB
              obtain ⟨x', HX'⟩ : ∃ x, Hid (x = (zs.getD p ([], 0)).1) := ⟨_, rfl⟩
              rw [← HX'.out] at hix'
              cases hle : rowLessB x' x with
              | false =>
                go_wp2_with (first | (go_at_call 61; refine (implRowOk_val hr (hix.alloc _)).mono ?_; rintro e w' ⟨rfl, rfl⟩) | (go_at_call 62; refine (weightFits_val hw).mono ?_; rintro e w' ⟨rfl, rfl⟩))
                go_quiet (first | (go_at_call 19; exact Calls.quiet_of (implRowLess_val hle ((hix'.alloc _).drewN _) ((hix.alloc _).drewN _))))
                go_wp2
                go_ret
                exact ⟨ret_bool (zOk_miss (by rw [← HN.out]; exact hlt) (by unfold stepB; rw [Nat.add_sub_cancel, ← HX.out, ← HX'.out, hle]; simp)).symm, below_then HW.out (below_then (below_alloc _) (below_drewN (Below.refl _ _) _))⟩
              | true =>
                go_wp2_with (first | (go_at_call 61; refine (implRowOk_val hr (hix.alloc _)).mono ?_; rintro e w' ⟨rfl, rfl⟩) | (go_at_call 62; refine (weightFits_val hw).mono ?_; rintro e w' ⟨rfl, rfl⟩))
                go_quiet (first | (go_at_call 19; exact Calls.quiet_of (implRowLess_val hle ((hix'.alloc _).drewN _) ((hix.alloc _).drewN _))))
                go_wp2
                go_roundw
                case rel => exact ⟨p + 1 + 1, by omega, by go_num, below_then HW.out (below_then (below_alloc _) (below_drewN (Below.refl _ _) _)), fun j hj => by
                  rcases Nat.lt_succ_iff_lt_or_eq.1 hj with h | h
                  · exact HS.out j h
                  · subst h; unfold stepB; rw [Nat.add_sub_cancel, ← HX.out, ← HY.out, ← HX'.out, hr, hw, hle]; simp⟩
                case measure => simp [intOf]; omega
      · have e : k = n := by omega
        subst e
        clear hc
        go_wp2
        go_ret
        exact ⟨ret_bool (zOk_all (by rw [← HN.out]; exact h100) (by rw [← HN.out]; exact HS.out)).symm, HW.out⟩
  · go_enter Tryz.func16, Tryz.ntmps16
    go_wp2
    go_ret
    exact ⟨ret_bool (zOk_len (by rw [← HN.out]; exact h100)).symm, Below.refl _ _⟩

theorem implZOk_none (a : Option Addr) (cap : Nat) (w : World) :
    Calls Tryz.prog 16 #[.slice a 0 cap] w fun e w' => e = .returned (.bool (zOkB [])) ∧ Below w.heap.size w w' := by
  go_enter Tryz.func16, Tryz.ntmps16
  go_wp2
  refine wp_loop_rounds 1 ?_
  rw [rounds_succ]
  go_wp2
  go_ret
  exact ⟨rfl, Below.refl _ _⟩

theorem implZOk_any (v : Value) (zs : List It) (w : World) (h : ItemsAt w v zs) :
    Calls Tryz.prog 16 #[v] w fun e w' => e = .returned (.bool (zOkB zs)) ∧ Below w.heap.size w w' := by
  rcases h.cases with ⟨a, cap, rfl, rfl⟩ | ⟨b, off, cap, hpos, hlim, rfl, hbw, hc⟩
  · exact implZOk_none a cap w
  · exact implZOk_some b off cap zs w hpos hlim hbw hc

end Go.Proofs.YtkgopbffgahhcaaGreatDoor

/-
  Int slices in memory of the call's own, by the range of blocks in which they lie; append of an int slice.
-/
namespace Go.Proofs.YtkgopbffgahhcaaGreatDoor
open Go.RowKit

/-- v is an int slice of the call's own in a block from lo up to hi, its elements are xs. -/
def Own (w : World) (lo hi : Nat) (v : Value) (xs : List Int) : Prop :=
  w.ownsRow lo 3 1 v xs.length (xs.map (Value.int .i64)) ∧ (∀ k, v.ownBlock = some k → k < hi) ∧ xs.length ≤ 140737488355328 ∧ hi ≤ w.heap.size

theorem own_new {w : World} {lo n : Nat} {v : Value} {xs : List Int} (h : w.ownsRow lo 3 1 v n (xs.map (Value.int .i64))) (hl : xs.length ≤ 140737488355328) : Own w lo w.heap.size v xs := by
  have hn : n = xs.length := by simpa using h.1.symm
  subst hn
  exact ⟨h, fun k hk => (h.lt k hk).2, hl, Nat.le_refl _⟩

theorem Own.wide {w : World} {lo hi lo' hi' : Nat} {v : Value} {xs : List Int} (h : Own w lo hi v xs) (h1 : lo' ≤ lo) (h2 : hi ≤ hi') (h3 : hi' ≤ w.heap.size) : Own w lo' hi' v xs := by
  obtain ⟨⟨a, b⟩, hhi, hl, hs⟩ := h
  refine ⟨⟨a, ?_⟩, fun k hk => Nat.lt_of_lt_of_le (hhi k hk) h2, hl, h3⟩
  rcases b with b | ⟨g, cap, cur, hv, hg, r⟩
  · exact .inl b
  · exact .inr ⟨g, cap, cur, hv, Nat.le_trans h1 hg, r⟩

theorem Own.shape {w : World} {lo hi : Nat} {v : Value} {xs : List Int} (h : Own w lo hi v xs) (hne : 0 < xs.length) : ∃ g cap, v = .slice (some ⟨g, 0, none⟩) xs.length cap ∧ lo ≤ g ∧ g < hi ∧ xs.length ≤ cap ∧ cap ≤ maxLen := by
  obtain ⟨⟨_, b⟩, hhi, _, _⟩ := h
  rcases b with ⟨_, hn⟩ | ⟨g, cap, cur, hv, hg, _, hc, hm, _⟩
  · omega
  · exact ⟨g, cap, hv, hg, hhi g (by rw [hv]; rfl), hc, hm⟩

theorem Own.shape' {w : World} {lo hi : Nat} {v : Value} {xs : List Int} (h : Own w lo hi v xs) (hne : v ≠ .slice none 0 0) : ∃ g cap, v = .slice (some ⟨g, 0, none⟩) xs.length cap ∧ lo ≤ g ∧ g < hi ∧ xs.length ≤ cap ∧ cap ≤ maxLen := by
  obtain ⟨⟨_, b⟩, hhi, _, _⟩ := h
  rcases b with ⟨hv, _⟩ | ⟨g, cap, cur, hv, hg, _, hc, hm, _⟩
  · exact absurd hv hne
  · exact ⟨g, cap, hv, hg, hhi g (by rw [hv]; rfl), hc, hm⟩

/-- A list that is written out, in a new block. -/
theorem own_lit (w : World) (xs : List Int) (hl : xs.length ≤ 140737488355328) : Own (w.alloc (.cells (xs.map (Value.int .i64)).toArray 3)) w.heap.size (w.heap.size + 1) (.slice (some ⟨w.heap.size, 0, none⟩) xs.length xs.length) xs := by
  have h := World.ownsRow_lit (base := w.heap.size) (e := 3) (size := 1) w (xs.map (Value.int .i64)).toArray xs.length (Nat.le_refl _) (by unfold maxLen; omega) (by simp)
  refine ⟨by simpa using h, ?_, hl, by simp⟩
  intro k hk
  simp [Value.ownBlock] at hk
  omega

theorem Own.ints {w : World} {lo hi : Nat} {v : Value} {xs : List Int} (h : Own w lo hi v xs) : IntsAt w v xs := by
  obtain ⟨ho, _, hl, _⟩ := h
  rcases ho.2 with ⟨rfl, hn⟩ | ⟨g, cap, cur, rfl, _⟩
  · have : xs = [] := List.length_eq_zero_iff.1 hn
    subst this
    exact ⟨by simp, none, 0, rfl, fun _ => rfl, fun h => absurd rfl h⟩
  · exact ints_of_row hl ho

theorem Own.keep {w w' : World} {lo hi : Nat} {v : Value} {xs : List Int} (h : Own w lo hi v xs) (hb : Below hi w w') : Own w' lo hi v xs := by
  obtain ⟨⟨h1, h2⟩, hhi, hl, hs⟩ := h
  refine ⟨⟨h1, ?_⟩, hhi, hl, Nat.le_trans hs hb.size⟩
  rcases h2 with h2 | ⟨g, cap, cur, hv, hg, hh, r⟩
  · exact .inl h2
  · exact .inr ⟨g, cap, cur, hv, hg, (hb.block g (hhi g (by rw [hv]; rfl))).trans hh, r⟩

theorem Own.keep' {w w' : World} {lo hi : Nat} {v : Value} {xs : List Int} (h : Own w lo hi v xs) (hb : Below w.heap.size w w') : Own w' lo hi v xs := h.keep (hb.mono h.2.2.2)

theorem Own.kept {w w' : World} {lo hi : Nat} {v : Value} {xs : List Int} (h : Own w lo hi v xs) {row : Option Nat} (hg : w.grownBy w' row) (hne : ∀ k, row = some k → k < lo ∨ hi ≤ k) : Own w' lo hi v xs := by
  obtain ⟨ho, hhi, hl, hs⟩ := h
  refine ⟨ho.kept hg ?_, hhi, hl, Nat.le_trans hs hg.size⟩
  cases hv : v.ownBlock with
  | none => exact .inl rfl
  | some k =>
    refine .inr fun e => ?_
    have h1 := (ho.lt k hv).1
    have h2 := hhi k hv
    rcases hne k e.symm with h | h <;> omega

theorem grown_trans {a b c : World} {row : Option Nat} (h : a.grownBy b row) (k : b.grownBy c row) : a.grownBy c row :=
  ⟨k.os.trans h.os, k.tape.trans h.tape, k.output.trans h.output, Nat.le_trans h.size k.size, fun i hi hne => (k.block i (Nat.lt_of_lt_of_le hi h.size) hne).trans (h.block i hi hne)⟩
theorem grown_refl (a : World) (row : Option Nat) : a.grownBy a row := ⟨rfl, rfl, rfl, Nat.le_refl _, fun _ _ _ => rfl⟩

/-- A step that writes into new memory alone, behind one that writes into row besides. -/
theorem grown_via {w a b : World} {g row : Option Nat} (h : w.grownBy a g) (k : a.grownBy b row) (hr : ∀ i, row = some i → w.heap.size ≤ i) : w.grownBy b g :=
  ⟨k.os.trans h.os, k.tape.trans h.tape, k.output.trans h.output, Nat.le_trans h.size k.size, fun i hi hne => (k.block i (Nat.lt_of_lt_of_le hi h.size) (fun e => by have := hr i e.symm; omega)).trans (h.block i hi hne)⟩
theorem grown_alloc {w a : World} {g : Option Nat} (h : w.grownBy a g) (o : Obj) : w.grownBy (a.alloc o) g := grown_trans h (World.grownBy_alloc a o g)
theorem grown_below {w a b : World} {g : Option Nat} (h : w.grownBy a g) (k : Below a.heap.size a b) : w.grownBy b g :=
  ⟨k.os.trans h.os, k.tape.trans h.tape, k.output.trans h.output, Nat.le_trans h.size k.size, fun i hi hne => (k.block i (Nat.lt_of_lt_of_le hi h.size)).trans (h.block i hi hne)⟩
theorem below_grown {w w' : World} {row : Option Nat} {B : Nat} (hg : w.grownBy w' row) (hB : B ≤ w.heap.size) (hr : ∀ k, row = some k → B ≤ k) : Below B w w' := (Below.refl B w).grown hg hB hr

theorem oneCells (xs : List Int) : ∀ u ∈ xs.map (Value.int .i64), u.oneCell' = true := ints_oneCell .i64 xs

/-- append of an int slice, whatever it is, to one that the call owns. -/
theorem wpList_append_ints {P : Program} {w : World} {ops : Array Oper} {rest : List Oper} {o : Oper} {a : Act} {Q : Exit → Act → World → Prop} (hgd : o.guard = none) (s x : Operand) (t : TypeId)
    (ho : o.op = .call { callee := .builtin .append, args := #[s, x], argTypes := #[t, t] })
    (base : Nat) (e : TypeId) (i : TypeInfo) (ht : P.underlying t = some (.slice e)) (hi : P.info? e = some i) (hz : i.zero = some (.int .i64 0))
    (hsize : i.size = 1) (hby : i.bytes = 8)
    (v : Value) (n : Nat) (xs : List Value) (hs : a.eval s = v) (hown : w.ownsRow base e 1 v n xs)
    (vx : Value) (src : List Int) (hx : a.eval x = vx) (hsrc : IntsAt w vx src)
    (hbytes : (n + src.length) * 8 ≤ 140737488355328) (hbase : base ≤ w.heap.size)
    (h : ∀ v' w', w'.ownsRow base e 1 v' (n + src.length) (xs ++ src.map (Value.int .i64)) → w.grownBy w' v.ownBlock → (v ≠ .slice none 0 0 → v' ≠ .slice none 0 0) → wpList P ops Q rest (a.put o.dst v') w') : wpList P ops Q (o :: rest) a w := by
  obtain ⟨hl, ad, cap, rfl, hnone, hc⟩ := hsrc
  cases ad with
  | none =>
    have hsrc : src = [] := by
      by_cases h0 : src = []
      · exact h0
      · obtain ⟨b, off, hh, _⟩ := hc h0
        simp at hh
    subst hsrc
    have hcap := hnone rfl
    subst hcap
    refine wpList_append_own_none hgd s x t ho base e i 1 ht hi v n xs hs hown hx ?_
    refine h v w (by simpa using hown) (grown_refl _ _) (fun h => h)
  | some ad =>
    have hnews : ∀ j u, (src.map (Value.int .i64))[j]? = some u → w.cell? (ad.add j) = some u := by
      intro j u hu
      by_cases h0 : src = []
      · subst h0; simp at hu
      · obtain ⟨b, off, hh, _, hcell⟩ := hc h0
        simp at hh
        subst hh
        have hj : j < src.length := by
          have := (List.getElem?_eq_some_iff.1 hu).1
          simpa using this
        rw [Addr.add_lit, hcell j hj]
        rw [← hu]
        simp [List.getD, hj]
    refine wpList_append_own w hgd s x t ho base e i (.int .i64 0) 1 8 ht hi hz hsize hby rfl (by decide) v n xs hs hown ad src.length cap (src.map (Value.int .i64)) hx (by simp) hnews (oneCells src) (by unfold maxLen; omega) hbytes hbase ?_
    intro v' w' h1 h2 h3
    exact h v' w' h1 h2 (fun hv hv' => hv (h3.1 hv').1)

end Go.Proofs.YtkgopbffgahhcaaGreatDoor

/-
  Items in memory of the call's own: the slice of pairs in one block, each row in a block of its own, all blocks in a range; what a step that writes in another range leaves.
-/
namespace Go.Proofs.YtkgopbffgahhcaaGreatDoor
open Go.RowKit

def vn : Value := .slice none 0 0
/-- The cells of pairs. -/
def cells2 (ps : List (Value × Int)) : List Value := ps.flatMap fun p => [p.1, .int .i64 p.2]

theorem cells2_nil : cells2 [] = [] := rfl
theorem cells2_cons (p : Value × Int) (ps : List (Value × Int)) : cells2 (p :: ps) = p.1 :: .int .i64 p.2 :: cells2 ps := rfl
theorem cells2_append (ps qs : List (Value × Int)) : cells2 (ps ++ qs) = cells2 ps ++ cells2 qs := by simp [cells2]
theorem cells2_length (ps : List (Value × Int)) : (cells2 ps).length = ps.length * 2 := by
  induction ps with
  | nil => rfl
  | cons p ps ih => rw [cells2_cons]; simp [ih]; omega
theorem cells2_get0 : ∀ (ps : List (Value × Int)) (j : Nat), j < ps.length → (cells2 ps)[j * 2]? = some (ps.getD j (vn, 0)).1
  | p :: ps, 0, _ => by simp [cells2_cons]
  | p :: ps, j + 1, h => by
    have := cells2_get0 ps j (by simpa using h)
    rw [cells2_cons, show (j + 1) * 2 = j * 2 + 1 + 1 by omega]
    simpa using this
theorem cells2_get1 : ∀ (ps : List (Value × Int)) (j : Nat), j < ps.length → (cells2 ps)[j * 2 + 1]? = some (.int .i64 (ps.getD j (vn, 0)).2)
  | p :: ps, 0, _ => by simp [cells2_cons]
  | p :: ps, j + 1, h => by
    have := cells2_get1 ps j (by simpa using h)
    rw [cells2_cons, show (j + 1) * 2 + 1 = j * 2 + 1 + 1 + 1 by omega]
    simpa using this
theorem cells2_set0 : ∀ (ps : List (Value × Int)) (j : Nat) (v : Value), j < ps.length → (cells2 ps).set (j * 2) v = cells2 (ps.set j (v, (ps.getD j (vn, 0)).2))
  | p :: ps, 0, v, _ => by simp [cells2_cons]
  | p :: ps, j + 1, v, h => by
    have := cells2_set0 ps j v (by simpa using h)
    rw [cells2_cons, show (j + 1) * 2 = j * 2 + 1 + 1 by omega, List.set_cons_succ, List.set_cons_succ, this]
    simp [cells2_cons]
theorem cells2_set1 : ∀ (ps : List (Value × Int)) (j : Nat) (y : Int), j < ps.length → (cells2 ps).set (j * 2 + 1) (.int .i64 y) = cells2 (ps.set j ((ps.getD j (vn, 0)).1, y))
  | p :: ps, 0, y, _ => by simp [cells2_cons]
  | p :: ps, j + 1, y, h => by
    have := cells2_set1 ps j y (by simpa using h)
    rw [cells2_cons, show (j + 1) * 2 + 1 = j * 2 + 1 + 1 + 1 by omega, List.set_cons_succ, List.set_cons_succ, this]
    simp [cells2_cons]

/-- v is a slice of pairs of the call's own in a block from lo up to hi, its elements are ps. -/
def Spine (w : World) (lo hi : Nat) (v : Value) (ps : List (Value × Int)) : Prop :=
  w.ownsRow lo 38 2 v ps.length (cells2 ps) ∧ (∀ k, v.ownBlock = some k → k < hi) ∧ ps.length ≤ 140737488355328 ∧ hi ≤ w.heap.size

theorem spine_new {w : World} {lo n : Nat} {v : Value} {ps : List (Value × Int)} (h : w.ownsRow lo 38 2 v n (cells2 ps)) (hl : ps.length ≤ 140737488355328) : Spine w lo w.heap.size v ps := by
  have hn : n = ps.length := by have := h.1; rw [cells2_length] at this; omega
  subst hn
  exact ⟨h, fun k hk => (h.lt k hk).2, hl, Nat.le_refl _⟩
theorem Spine.keep {w w' : World} {lo hi : Nat} {v : Value} {ps : List (Value × Int)} (h : Spine w lo hi v ps) (hb : Below hi w w') : Spine w' lo hi v ps := by
  obtain ⟨⟨h1, h2⟩, hhi, hl, hs⟩ := h
  refine ⟨⟨h1, ?_⟩, hhi, hl, Nat.le_trans hs hb.size⟩
  rcases h2 with h2 | ⟨g, cap, cur, hv, hg, hh, r⟩
  · exact .inl h2
  · exact .inr ⟨g, cap, cur, hv, hg, (hb.block g (hhi g (by rw [hv]; rfl))).trans hh, r⟩
theorem Spine.wide {w : World} {lo hi lo' hi' : Nat} {v : Value} {ps : List (Value × Int)} (h : Spine w lo hi v ps) (h1 : lo' ≤ lo) (h2 : hi ≤ hi') (h3 : hi' ≤ w.heap.size) : Spine w lo' hi' v ps := by
  obtain ⟨⟨a, b⟩, hhi, hl, hs⟩ := h
  refine ⟨⟨a, ?_⟩, fun k hk => Nat.lt_of_lt_of_le (hhi k hk) h2, hl, h3⟩
  rcases b with b | ⟨g, cap, cur, hv, hg, r⟩
  · exact .inl b
  · exact .inr ⟨g, cap, cur, hv, Nat.le_trans h1 hg, r⟩
theorem Spine.kept {w w' : World} {lo hi : Nat} {v : Value} {ps : List (Value × Int)} (h : Spine w lo hi v ps) {row : Option Nat} (hg : w.grownBy w' row) (hne : v.ownBlock = none ∨ v.ownBlock ≠ row) : Spine w' lo hi v ps :=
  ⟨h.1.kept hg hne, h.2.1, h.2.2.1, Nat.le_trans h.2.2.2 hg.size⟩
theorem Spine.shape {w : World} {lo hi : Nat} {v : Value} {ps : List (Value × Int)} (h : Spine w lo hi v ps) (hne : 0 < ps.length) : ∃ g cap, v = .slice (some ⟨g, 0, none⟩) ps.length cap ∧ lo ≤ g ∧ g < hi ∧ ps.length ≤ cap ∧ cap ≤ maxLen := by
  obtain ⟨⟨_, b⟩, hhi, _, _⟩ := h
  rcases b with ⟨_, hn⟩ | ⟨g, cap, cur, hv, hg, _, hc, hm, _⟩
  · omega
  · exact ⟨g, cap, hv, hg, hhi g (by rw [hv]; rfl), hc, hm⟩
theorem Spine.cell0 {w : World} {lo hi : Nat} {g n cap : Nat} {ps : List (Value × Int)} (h : Spine w lo hi (.slice (some ⟨g, 0, none⟩) n cap) ps) {j : Nat} (hj : j < ps.length) : w.cell? ⟨g, j * 2, none⟩ = some (ps.getD j (vn, 0)).1 := by
  have hn : n = ps.length := by
    rcases h.1.2 with ⟨e, _⟩ | ⟨_, _, _, e, _⟩ <;> simp at e
    exact e.2.1
  subst hn
  rw [h.1.cellAt (j * 2) (by omega), cells2_get0 ps j hj]
theorem Spine.cell1 {w : World} {lo hi : Nat} {g n cap : Nat} {ps : List (Value × Int)} (h : Spine w lo hi (.slice (some ⟨g, 0, none⟩) n cap) ps) {j : Nat} (hj : j < ps.length) : w.cell? ⟨g, j * 2 + 1, none⟩ = some (.int .i64 (ps.getD j (vn, 0)).2) := by
  have hn : n = ps.length := by
    rcases h.1.2 with ⟨e, _⟩ | ⟨_, _, _, e, _⟩ <;> simp at e
    exact e.2.1
  subst hn
  rw [h.1.cellAt (j * 2 + 1) (by omega), cells2_get1 ps j hj]

/-- A row's block holds ints: it is no slice's of pairs. -/
theorem row_ne_spine {w : World} {lo hi lo' hi' : Nat} {v rv : Value} {ps : List (Value × Int)} {xs : List Int} (h : Spine w lo hi v ps) (hr : Own w lo' hi' rv xs) : rv.ownBlock = none ∨ rv.ownBlock ≠ v.ownBlock := by
  rcases hr.1.2 with ⟨rfl, _⟩ | ⟨g, cap, cur, rfl, _, hg, _⟩
  · exact .inl rfl
  · refine .inr fun e => ?_
    rcases h.1.2 with ⟨rfl, _⟩ | ⟨g', cap', cur', rfl, _, hg', _⟩
    · simp [Value.ownBlock] at e
    · simp [Value.ownBlock] at e
      subst e
      rw [hg] at hg'
      simp at hg'

/-- Items of the call's own in blocks from lo up to hi. -/
def OwnZ (w : World) (lo hi : Nat) (v : Value) (zs : List It) : Prop :=
  ∃ ps : List (Value × Int), ps.map (·.2) = zs.map (·.2) ∧ Spine w lo hi v ps ∧ (∀ j, j < ps.length → Own w lo hi (ps.getD j (vn, 0)).1 (zs.getD j ([], 0)).1) ∧
    ∀ i j k, i < j → j < ps.length → (ps.getD i (vn, 0)).1.ownBlock = some k → (ps.getD j (vn, 0)).1.ownBlock ≠ some k

theorem snd_getD {ps : List (Value × Int)} {zs : List It} (h : ps.map (·.2) = zs.map (·.2)) (j : Nat) : (ps.getD j (vn, 0)).2 = (zs.getD j ([], 0)).2 := by
  have h1 : (ps.map (·.2)).getD j 0 = (zs.map (·.2)).getD j 0 := by rw [h]
  simp only [List.getD, List.getElem?_map] at h1 ⊢
  cases h2 : ps[j]? <;> cases h3 : zs[j]? <;> simp [h2, h3] at h1 ⊢ <;> exact h1
theorem snd_len {ps : List (Value × Int)} {zs : List It} (h : ps.map (·.2) = zs.map (·.2)) : ps.length = zs.length := by
  have := congrArg List.length h
  simpa using this

theorem items_of_spine {w : World} {lo hi : Nat} {v : Value} {ps : List (Value × Int)} {zs : List It} (he : ps.map (·.2) = zs.map (·.2)) (h : Spine w lo hi v ps) (hr : ∀ j, j < ps.length → IntsAt w (ps.getD j (vn, 0)).1 (zs.getD j ([], 0)).1) : ItemsAt w v zs := by
  have hl := snd_len he
  refine ⟨by rw [← hl]; exact h.2.2.1, ?_⟩
  rcases h.1.2 with ⟨rfl, hn⟩ | ⟨g, cap, cur, rfl, _, hg, _⟩
  · have : zs = [] := List.length_eq_zero_iff.1 (by omega)
    subst this
    exact ⟨none, 0, rfl, fun _ => rfl, fun h => absurd rfl h⟩
  · refine ⟨some ⟨g, 0, none⟩, cap, by rw [hl], fun h => by simp at h, fun hne => ⟨g, 0, rfl, (Array.getElem?_eq_some_iff.1 hg).1, fun j hj => ?_⟩⟩
    have hj' : j < ps.length := by omega
    refine ⟨_, by rw [Nat.zero_add]; exact h.cell0 hj', ?_, hr j hj'⟩
    rw [Nat.zero_add, h.cell1 hj', snd_getD he]

theorem OwnZ.items {w : World} {lo hi : Nat} {v : Value} {zs : List It} (h : OwnZ w lo hi v zs) : ItemsAt w v zs := by
  obtain ⟨ps, he, hs, hr, _⟩ := h
  exact items_of_spine he hs fun j hj => (hr j hj).ints
theorem OwnZ.keep {w w' : World} {lo hi : Nat} {v : Value} {zs : List It} (h : OwnZ w lo hi v zs) (hb : Below hi w w') : OwnZ w' lo hi v zs := by
  obtain ⟨ps, he, hs, hr, ha⟩ := h
  exact ⟨ps, he, hs.keep hb, fun j hj => (hr j hj).keep hb, ha⟩
theorem OwnZ.hi_le {w : World} {lo hi : Nat} {v : Value} {zs : List It} (h : OwnZ w lo hi v zs) : hi ≤ w.heap.size := by
  obtain ⟨ps, he, hs, hr, ha⟩ := h
  exact hs.2.2.2
theorem OwnZ.keep' {w w' : World} {lo hi : Nat} {v : Value} {zs : List It} (h : OwnZ w lo hi v zs) (hb : Below w.heap.size w w') : OwnZ w' lo hi v zs := h.keep (hb.mono h.hi_le)
theorem OwnZ.wide {w : World} {lo hi lo' hi' : Nat} {v : Value} {zs : List It} (h : OwnZ w lo hi v zs) (h1 : lo' ≤ lo) (h2 : hi ≤ hi') (h3 : hi' ≤ w.heap.size) : OwnZ w lo' hi' v zs := by
  obtain ⟨ps, he, hs, hr, ha⟩ := h
  exact ⟨ps, he, hs.wide h1 h2 h3, fun j hj => (hr j hj).wide h1 h2 h3, ha⟩

/-- A step that writes in blocks from lo up to hi alone, besides new ones. -/
structure Only (lo hi : Nat) (w w' : World) : Prop where
  os : w'.os = w.os
  tape : w'.tape = w.tape
  output : w'.output = w.output
  size : w.heap.size ≤ w'.heap.size
  block : ∀ k, k < w.heap.size → (k < lo ∨ hi ≤ k) → w'.heap[k]? = w.heap[k]?
theorem Only.refl (lo hi : Nat) (w : World) : Only lo hi w w := ⟨rfl, rfl, rfl, Nat.le_refl _, fun _ _ _ => rfl⟩
theorem Only.trans {lo hi : Nat} {a b c : World} (h : Only lo hi a b) (k : Only lo hi b c) : Only lo hi a c :=
  ⟨k.os.trans h.os, k.tape.trans h.tape, k.output.trans h.output, Nat.le_trans h.size k.size, fun i hi' hr => (k.block i (Nat.lt_of_lt_of_le hi' h.size) hr).trans (h.block i hi' hr)⟩
theorem Only.setCell {lo hi : Nat} {w a : World} (h : Only lo hi w a) {p : Addr} (h1 : lo ≤ p.block) (h2 : p.block < hi) (u : Value) : Only lo hi w (a.setCell p u) :=
  h.trans ⟨rfl, rfl, rfl, by simp [World.setCell], fun k _ hk => Below.heap_setCell _ _ _ _ (by omega)⟩
theorem Only.of_grown {lo hi : Nat} {a b : World} {row : Option Nat} (h : a.grownBy b row) (hr : ∀ k, row = some k → lo ≤ k ∧ k < hi) : Only lo hi a b :=
  ⟨h.os, h.tape, h.output, h.size, fun i hi' hk => h.block i hi' (fun e => by have := hr i e.symm; omega)⟩
theorem Only.below {lo hi B : Nat} {w a b : World} (h : Only lo hi a b) (hb : Below B w a) (hB : B ≤ lo) (hs : B ≤ a.heap.size) : Below B w b := by
  refine hb.trans ?_
  exact ⟨h.os, h.tape, h.output, h.size, fun k hk => h.block k (by omega) (.inl (by omega))⟩
theorem Own.only {w w' : World} {lo hi lo' hi' : Nat} {v : Value} {xs : List Int} (h : Own w lo' hi' v xs) (k : Only lo hi w w') (ha : hi' ≤ lo ∨ hi ≤ lo') : Own w' lo' hi' v xs := by
  obtain ⟨ho, hhi, hl, hs⟩ := h
  obtain ⟨h1, h2⟩ := ho
  refine ⟨⟨h1, ?_⟩, hhi, hl, Nat.le_trans hs k.size⟩
  rcases h2 with h2 | ⟨g, cap, cur, hv, hg, hh, r⟩
  · exact .inl h2
  · have h3 := hhi g (by rw [hv]; rfl)
    exact .inr ⟨g, cap, cur, hv, hg, (k.block g (by omega) (by omega)).trans hh, r⟩
theorem Spine.only {w w' : World} {lo hi lo' hi' : Nat} {v : Value} {ps : List (Value × Int)} (h : Spine w lo' hi' v ps) (k : Only lo hi w w') (ha : hi' ≤ lo ∨ hi ≤ lo') : Spine w' lo' hi' v ps := by
  obtain ⟨ho, hhi, hl, hs⟩ := h
  obtain ⟨h1, h2⟩ := ho
  refine ⟨⟨h1, ?_⟩, hhi, hl, Nat.le_trans hs k.size⟩
  rcases h2 with h2 | ⟨g, cap, cur, hv, hg, hh, r⟩
  · exact .inl h2
  · have h3 := hhi g (by rw [hv]; rfl)
    exact .inr ⟨g, cap, cur, hv, hg, (k.block g (by omega) (by omega)).trans hh, r⟩
theorem OwnZ.only {w w' : World} {lo hi lo' hi' : Nat} {v : Value} {zs : List It} (h : OwnZ w lo' hi' v zs) (k : Only lo hi w w') (ha : hi' ≤ lo ∨ hi ≤ lo') : OwnZ w' lo' hi' v zs := by
  obtain ⟨ps, he, hs, hr, hap⟩ := h
  exact ⟨ps, he, hs.only k ha, fun j hj => (hr j hj).only k ha, hap⟩

theorem infoItem : (Tryz.prog.info? 38).map (fun i => (i.zero, i.size, i.bytes)) = some (some (.agg #[.slice none 0 0, .int .i64 0]), 2, 32) := by kernel_rfl

theorem Spine.stored0 {w : World} {lo hi : Nat} {g n cap : Nat} {ps : List (Value × Int)} (h : Spine w lo hi (.slice (some ⟨g, 0, none⟩) n cap) ps) {j : Nat} (hj : j < ps.length) (u : Value) :
    Spine (w.setCell ⟨g, j * 2, none⟩ u) lo hi (.slice (some ⟨g, 0, none⟩) n cap) (ps.set j (u, (ps.getD j (vn, 0)).2)) ∧ w.grownBy (w.setCell ⟨g, j * 2, none⟩ u) (some g) := by
  have hn : n = ps.length := by
    rcases h.1.2 with ⟨e, _⟩ | ⟨_, _, _, e, _⟩ <;> simp at e
    exact e.2.1
  subst hn
  have hst := h.1.stored (j * 2) u
  rw [cells2_set0 ps j u hj] at hst
  exact ⟨⟨by rw [List.length_set]; exact hst.1, h.2.1, by rw [List.length_set]; exact h.2.2.1, Nat.le_trans h.2.2.2 hst.2.size⟩, hst.2⟩
theorem Spine.stored1 {w : World} {lo hi : Nat} {g n cap : Nat} {ps : List (Value × Int)} (h : Spine w lo hi (.slice (some ⟨g, 0, none⟩) n cap) ps) {j : Nat} (hj : j < ps.length) (y : Int) :
    Spine (w.setCell ⟨g, j * 2 + 1, none⟩ (.int .i64 y)) lo hi (.slice (some ⟨g, 0, none⟩) n cap) (ps.set j ((ps.getD j (vn, 0)).1, y)) ∧ w.grownBy (w.setCell ⟨g, j * 2 + 1, none⟩ (.int .i64 y)) (some g) := by
  have hn : n = ps.length := by
    rcases h.1.2 with ⟨e, _⟩ | ⟨_, _, _, e, _⟩ <;> simp at e
    exact e.2.1
  subst hn
  have hst := h.1.stored (j * 2 + 1) (.int .i64 y)
  rw [cells2_set1 ps j y hj] at hst
  exact ⟨⟨by rw [List.length_set]; exact hst.1, h.2.1, by rw [List.length_set]; exact h.2.2.1, Nat.le_trans h.2.2.2 hst.2.size⟩, hst.2⟩

theorem Own.keptB {w w' : World} {lo hi : Nat} {v : Value} {xs : List Int} (h : Own w lo hi v xs) {row : Option Nat} (hg : w.grownBy w' row) (hne : v.ownBlock = none ∨ v.ownBlock ≠ row) : Own w' lo hi v xs :=
  ⟨h.1.kept hg hne, h.2.1, h.2.2.1, Nat.le_trans h.2.2.2 hg.size⟩

theorem getD_set_self {α : Type} {l : List α} {k : Nat} (hk : k < l.length) (x d : α) : (l.set k x).getD k d = x := by simp [List.getD, hk]
theorem getD_set_ne {α : Type} {l : List α} {k j : Nat} (hne : j ≠ k) (x d : α) : (l.set k x).getD j d = l.getD j d := by
  simp only [List.getD]
  rw [List.getElem?_set_ne (by omega)]

/-- An element is written: its row, in a new block, and its weight. -/
theorem OwnZ.put {w : World} {lo hi hi' : Nat} {g n cap : Nat} {zs : List It} (h : OwnZ w lo hi (.slice (some ⟨g, 0, none⟩) n cap) zs) {k : Nat} (hk : k < zs.length) {rv : Value} {xs : List Int} (hrow : Own w lo hi' rv xs)
    (h1 : hi ≤ hi') (h2 : hi' ≤ w.heap.size) (hf : ∀ b, rv.ownBlock = some b → hi ≤ b) (y : Int) :
    OwnZ ((w.setCell ⟨g, k * 2, none⟩ rv).setCell ⟨g, k * 2 + 1, none⟩ (.int .i64 y)) lo hi' (.slice (some ⟨g, 0, none⟩) n cap) (zs.set k (xs, y)) := by
  obtain ⟨ps, he, hs, hr, ha⟩ := h
  have hl := snd_len he
  have hk' : k < ps.length := by omega
  have s1 := hs.stored0 hk' rv
  have s2 := s1.1.stored1 (j := k) (by simpa using hk') y
  rw [List.set_set, getD_set_self hk'] at s2
  have hg : w.grownBy ((w.setCell ⟨g, k * 2, none⟩ rv).setCell ⟨g, k * 2 + 1, none⟩ (.int .i64 y)) (some g) := grown_trans s1.2 s2.2
  have hne : ∀ {lo' hi' : Nat} {v : Value} {us : List Int}, Own w lo' hi' v us → v.ownBlock = none ∨ v.ownBlock ≠ some g := fun h => row_ne_spine hs h
  refine ⟨ps.set k (rv, y), ?_, s2.1.wide (Nat.le_refl _) h1 (Nat.le_trans h2 hg.size), fun j hj => ?_, fun i j b hij hj hb => ?_⟩
  · rw [List.map_set, List.map_set, he]
  · by_cases hjk : j = k
    · subst hjk
      rw [getD_set_self hk', getD_set_self hk]
      exact hrow.keptB hg (hne hrow)
    · rw [getD_set_ne hjk, getD_set_ne hjk]
      have := hr j (by simpa using hj)
      exact (this.keptB hg (hne this)).wide (Nat.le_refl _) h1 (Nat.le_trans h2 hg.size)
  · have hj' : j < ps.length := by simpa using hj
    by_cases hik : i = k
    · subst hik
      rw [getD_set_self hk'] at hb
      rw [getD_set_ne (by omega)]
      intro hb'
      have h3 := hf b hb
      have h4 := (hr j hj').2.1 b hb'
      omega
    · rw [getD_set_ne hik] at hb
      by_cases hjk : j = k
      · subst hjk
        rw [getD_set_self hk']
        intro hb'
        have h3 := hf b hb'
        have h4 := (hr i (by omega)).2.1 b hb
        omega
      · rw [getD_set_ne hjk]
        exact ha i j b hij hj' hb

theorem OwnZ.cellAt0 {w : World} {lo hi : Nat} {g n cap : Nat} {zs : List It} (h : OwnZ w lo hi (.slice (some ⟨g, 0, none⟩) n cap) zs) {k : Nat} (hk : k < zs.length) : ∃ u, w.cell? ⟨g, k * 2, none⟩ = some u := by
  obtain ⟨ps, he, hs, hr, ha⟩ := h
  exact ⟨_, hs.cell0 (by rw [snd_len he]; exact hk)⟩
theorem OwnZ.cellAt1 {w : World} {lo hi : Nat} {g n cap : Nat} {zs : List It} (h : OwnZ w lo hi (.slice (some ⟨g, 0, none⟩) n cap) zs) {k : Nat} (hk : k < zs.length) : ∃ u, w.cell? ⟨g, k * 2 + 1, none⟩ = some u := by
  obtain ⟨ps, he, hs, hr, ha⟩ := h
  exact ⟨_, hs.cell1 (by rw [snd_len he]; exact hk)⟩
theorem Spine.frozenAt {w : World} {lo hi : Nat} {g n cap : Nat} {ps : List (Value × Int)} (h : Spine w lo hi (.slice (some ⟨g, 0, none⟩) n cap) ps) (j : Nat) : w.frozen? ⟨g, j, none⟩ = false := by
  have hn : n = ps.length := by
    rcases h.1.2 with ⟨e, _⟩ | ⟨_, _, _, e, _⟩ <;> simp at e
    exact e.2.1
  subst hn
  exact h.1.frozenAt j
theorem OwnZ.frozenAt {w : World} {lo hi : Nat} {g n cap : Nat} {zs : List It} (h : OwnZ w lo hi (.slice (some ⟨g, 0, none⟩) n cap) zs) (j : Nat) : w.frozen? ⟨g, j, none⟩ = false := by
  obtain ⟨ps, he, hs, hr, ha⟩ := h
  exact hs.frozenAt j

theorem cell_is {B : Nat} {w w' : World} {p : Addr} {v : Option Value} (h : Below B w w') (hp : p.block < B) (hv : w.cell? p = v) : w'.cell? p = v := (h.cell hp).trans hv
theorem frozen_is {B : Nat} {w w' : World} {p : Addr} {v : Bool} (h : Below B w w') (hp : p.block < B) (hv : w.frozen? p = v) : w'.frozen? p = v := (h.frozen hp).trans hv

/-- One weight is written. -/
theorem OwnZ.putW {w : World} {lo hi : Nat} {g n cap : Nat} {zs : List It} (h : OwnZ w lo hi (.slice (some ⟨g, 0, none⟩) n cap) zs) {j : Nat} (hj : j < zs.length) (y : Int) :
    OwnZ (w.setCell ⟨g, j * 2 + 1, none⟩ (.int .i64 y)) lo hi (.slice (some ⟨g, 0, none⟩) n cap) (zs.set j ((zs.getD j ([], 0)).1, y)) ∧ w.grownBy (w.setCell ⟨g, j * 2 + 1, none⟩ (.int .i64 y)) (some g) := by
  obtain ⟨ps, he, hs, hr, ha⟩ := h
  have hl := snd_len he
  have hj' : j < ps.length := by omega
  have s1 := hs.stored1 hj' y
  have hg := s1.2
  have hne : ∀ {lo' hi' : Nat} {v : Value} {us : List Int}, Own w lo' hi' v us → v.ownBlock = none ∨ v.ownBlock ≠ some g := fun h => row_ne_spine hs h
  have hfst : ∀ i, ((ps.set j ((ps.getD j (vn, 0)).1, y)).getD i (vn, 0)).1 = (ps.getD i (vn, 0)).1 := fun i => by
    by_cases hij : i = j
    · subst hij; rw [getD_set_self hj']
    · rw [getD_set_ne hij]
  have hfst2 : ∀ i, ((zs.set j ((zs.getD j ([], 0)).1, y)).getD i ([], 0)).1 = (zs.getD i ([], 0)).1 := fun i => by
    by_cases hij : i = j
    · subst hij; rw [getD_set_self hj]
    · rw [getD_set_ne hij]
  refine ⟨⟨_, ?_, s1.1, fun i hi' => ?_, fun i i' b hii hi' hb => ?_⟩, hg⟩
  · rw [List.map_set, List.map_set, he]
  · rw [hfst, hfst2]
    have := hr i (by simpa using hi')
    exact this.keptB hg (hne this)
  · rw [hfst] at hb ⊢
    exact ha i i' b hii (by simpa using hi') hb

end Go.Proofs.YtkgopbffgahhcaaGreatDoor
