/-
  The draws of rows: spec.l12Open, l1Row, l1Bent, l1Two and what calls them: whatever the bytes are, they return rows of at most seven numbers in memory of their own, and write nothing that was there but the reader.
-/
import Derived.Test.YtflbdfpgaeeleaaGreatDoorRd
import Derived.OpenShut
namespace Go.Proofs.YtflbdfpgaeeleaaGreatDoor
open Go.RowKit

/-- Each number is small. -/
def Small (xs : List Int) : Prop := ∀ x ∈ xs, -2000000000 ≤ x ∧ x ≤ 2000000000
theorem Small.wf {xs : List Int} (h : Small xs) : WfInts xs := fun x hx => by have := h x hx; omega
theorem small_snoc {xs : List Int} {z : Int} (h : Small xs) (hz : -2000000000 ≤ z ∧ z ≤ 2000000000) : Small (xs ++ [z]) := fun x hx => by
  rcases List.mem_append.1 hx with e | e
  · exact h x e
  · have : x = z := by simpa using e
    rw [this]; exact hz
theorem small_set {xs : List Int} {z : Int} (h : Small xs) (hz : -2000000000 ≤ z ∧ z ≤ 2000000000) (k : Nat) : Small (xs.set k z) := fun x hx => by
  rcases List.mem_or_eq_of_mem_set hx with e | e
  · exact h x e
  · rw [e]; exact hz

theorem Rd.le {w : World} {g P Q : Nat} (h : Rd w g P) (hq : P ≤ Q) : Rd w g Q := by
  obtain ⟨ab, nb, cb, p, zs, hh, hp, r⟩ := h
  exact ⟨ab, nb, cb, p, zs, hh, by omega, r⟩

/-- A step that writes into another row than the reader's and its bytes': of the call's own, so a later one. -/
theorem Rd.grown {w w' : World} {g P : Nat} {row : Option Nat} (h : Rd w g P) (hg : w.grownBy w' row) (hold : ∀ b, row = some b → g < b) : Rd w' g P := by
  have hgl := h.lt
  obtain ⟨ab, nb, cb, p, zs, hh, hp, hn, hc, hz⟩ := h
  refine ⟨ab, nb, cb, p, zs, (hg.block g hgl (fun e => by have := hold g e.symm; omega)).trans hh, hp, hn, fun h0 => ?_, hz⟩
  obtain ⟨b, off, rfl, hbg, hbl, hcell⟩ := hc h0
  exact ⟨b, off, rfl, hbg, Nat.lt_of_lt_of_le hbl hg.size, fun j hj => hg.cell (hcell j hj) (fun e => by have := hold b e.symm; omega)⟩

theorem rd_new (w : World) (ab : Option Addr) (nb cb : Nat) (zs : List Int) (hn : nb ≤ 2000)
    (hc : 0 < nb → ∃ b off, ab = some ⟨b, off, none⟩ ∧ b < w.heap.size ∧ ∀ j, j < nb → w.cell? ⟨b, off + j, none⟩ = some (.int .u8 (zs.getD j 0))) (hz : ∀ j, 0 ≤ zs.getD j 0 ∧ zs.getD j 0 ≤ 255) :
    Rd (w.alloc (.cells #[.slice ab nb cb, .int .i64 0] 73)) w.heap.size 0 := by
  have hb : Below w.heap.size w (w.alloc (.cells #[.slice ab nb cb, .int .i64 0] 73)) := (Below.refl _ _).alloc (Nat.le_refl _) _
  refine ⟨ab, nb, cb, 0, zs, heap_alloc_new w _, Nat.le_refl _, hn, fun h0 => ?_, hz⟩
  obtain ⟨b, off, rfl, hbl, hcell⟩ := hc h0
  exact ⟨b, off, rfl, by omega, by simp; omega, fun j hj => (hb.cell (p := ⟨b, off + j, none⟩) hbl).trans (hcell j hj)⟩

theorem bytes_of {zs : List Int} (h : ∀ n ∈ zs, (Lit.int .u8 n).wf = true) : ∀ j, 0 ≤ zs.getD j 0 ∧ zs.getD j 0 ≤ 255 := by
  intro j
  by_cases hj : j < zs.length
  · exact bounds_u8 (h _ (getD_mem hj))
  · simp [List.getD, hj]

set_option maxHeartbeats 1000000 in
theorem l12Open_any (a : Option Addr) (len cap : Nat) (zs : List Int) (w : World) (h : IsRow .u8 w a len cap zs) :
    Calls Tryz.prog 12 #[.slice a len cap] w fun e w' => e = .returned (.pointer (some ⟨w.heap.size, 0, none⟩)) ∧ Rd w' w.heap.size 0 ∧ Below w.heap.size w w' := by
  by_cases hl : len ≤ 2000
  · rcases h with ⟨rfl, rfl, rfl, rfl⟩ | ⟨x, rfl, hlc, hm, hz, hcell, hwf⟩
    · go_enter Tryz.func12, Tryz.ntmps12
      go_wp2
      go_ret
      exact ⟨rfl, rd_new w none 0 0 [] (by omega) (fun h => by omega) (fun j => by simp), (Below.refl _ _).alloc (Nat.le_refl _) _⟩
    · have hd : ¬ (2000 : Int) < (len : Int) := by omega
      obtain ⟨b, off, spot⟩ := x
      have hR : Rd (w.alloc (.cells #[.slice (some ⟨b, off, spot⟩) len cap, .int .i64 0] 73)) w.heap.size 0 := by
        refine rd_new w _ len cap zs hl (fun h0 => ?_) (bytes_of hwf)
        have hc0 := hcell 0 (by omega)
        have hspot : spot = none := by simpa [Addr.add] using World.cell?_spot hc0
        subst hspot
        exact ⟨b, off, rfl, lt_of_cell hc0, fun j hj => by have := hcell j (by omega); rwa [Addr.add_lit] at this⟩
      clear hcell hwf
      go_enter Tryz.func12, Tryz.ntmps12
      go_wp2
      go_ret
      exact ⟨rfl, hR, (Below.refl _ _).alloc (Nat.le_refl _) _⟩
  · rcases h with ⟨rfl, rfl, rfl, rfl⟩ | ⟨x, rfl, hlc, hm, hz, hcell, hwf⟩
    · omega
    · obtain ⟨b, off, spot⟩ := x
      have hc0 := hcell 0 (by omega)
      have hspot : spot = none := by simpa [Addr.add] using World.cell?_spot hc0
      subst hspot
      have hd : (2000 : Int) < (len : Int) := by omega
      have hR : Rd (w.alloc (.cells #[.slice (some ⟨b, off, none⟩) 2000 cap, .int .i64 0] 73)) w.heap.size 0 :=
        rd_new w _ 2000 cap zs (by omega) (fun _ => ⟨b, off, rfl, lt_of_cell hc0, fun j hj => by have := hcell j (by omega); rwa [Addr.add_lit] at this⟩) (bytes_of hwf)
      clear hcell hwf
      go_enter Tryz.func12, Tryz.ntmps12
      go_wp2
      go_ret
      exact ⟨rfl, hR, (Below.refl _ _).alloc (Nat.le_refl _) _⟩

set_option maxHeartbeats 1000000 in
theorem l1Row_any (g P : Nat) (wd : Int) (w : World) (h0 : 0 ≤ wd) (h7 : wd ≤ 7) (hP : P ≤ 1099511627000) (h : Rd w g P) :
    Calls Tryz.prog 69 #[.pointer (some ⟨g, 0, none⟩), .int .i64 wd] w fun e w' =>
      ∃ v, e = .returned v ∧ ∃ xs : List Int, xs.length = wd.toNat ∧ Small xs ∧ Own w' w.heap.size w'.heap.size v xs ∧ Rd w' g (P + 7) ∧ w.grownBy w' (some g) := by
  obtain ⟨i0, hi, hz0, hz1, hz2⟩ := info_parts infoInt
  have hgw := h.lt
  have ho1 : (w.alloc (.cells #[] 3)).ownsRow w.heap.size 3 1 (.slice (some ⟨w.heap.size, 0, none⟩) 0 0) 0 [] := World.ownsRow_lit w #[] 0 (Nat.le_refl _) (by unfold maxLen; omega) rfl
  have hr1 : Rd (w.alloc (.cells #[] 3)) g P := h.below ((Below.refl _ _).alloc (Nat.le_refl _) _)
  clear h
  go_enter Tryz.func69, Tryz.ntmps69
  go_wp2
  go_loopw [5, 6] (fun v i wr => ∃ (k : Nat) (xs : List Int), (k : Int) ≤ wd ∧ Hid (Small xs) ∧ i = .int .i64 k ∧ wr.ownsRow w.heap.size 3 1 v k (xs.map (Value.int .i64)) ∧ Rd wr g (P + k) ∧ w.grownBy wr (some g))
    (fun _ i _ => wd.toNat - (intOf i).toNat)
  case atStart => exact ⟨0, [], h0, (fun x hx => by simp at hx), rfl, ho1, hr1, World.grownBy_alloc w _ _⟩
  case round =>
    obtain ⟨k, xs, hk, HSM, rfl, ho, hr, hg⟩ := hrel
    clear ho1 hr1
    by_cases hlt : (k : Int) < wd
    · have hlit : Own (wr.alloc (.cells #[.int .i64 0, .int .i64 1, .int .i64 2, .int .i64 3, .int .i64 1, .int .i64 2, .int .i64 (-1), .int .i64 5] 3)) wr.heap.size (wr.heap.size + 1) (.slice (some ⟨wr.heap.size, 0, none⟩) 8 8) [0, 1, 2, 3, 1, 2, -1, 5] := own_lit wr [0, 1, 2, 3, 1, 2, -1, 5] (by decide)
      have hr1 : Rd (wr.alloc (.cells #[.int .i64 0, .int .i64 1, .int .i64 2, .int .i64 3, .int .i64 1, .int .i64 2, .int .i64 (-1), .int .i64 5] 3)) g (P + k) := hr.below ((Below.refl _ _).alloc (Nat.le_refl _) _)
      have ho1 := ho.alloc (.cells #[.int .i64 0, .int .i64 1, .int .i64 2, .int .i64 3, .int .i64 1, .int .i64 2, .int .i64 (-1), .int .i64 5] 3)
      have hg1 := grown_alloc hg (.cells #[.int .i64 0, .int .i64 1, .int .i64 2, .int .i64 3, .int .i64 1, .int .i64 2, .int .i64 (-1), .int .i64 5] 3)
      have hgs := hg.size
      clear ho hr hg
      go_wp2_with fail
      refine (num_any g _ _ _ _ _ _ (by omega) hr1 hlit (by omega) (by decide) (by decide)).mono ?_
      rintro e w1 ⟨z, hz, rfl, hrd, hgr⟩
      have HSM2 : Hid (Small (xs ++ [z])) := small_snoc HSM.out (by simp at hz; omega)
      clear hz hlit hr1
      have hkl : xs.length = k := by simpa using ho1.1
      have ho2 := ho1.kept hgr (.inr fun e => by have := (ho1.lt g e).1; omega)
      have hg2 : w.grownBy w1 (some g) := grown_trans hg1 hgr
      have hgs1 := hgr.size
      simp only [World.size_alloc] at hgs1
      have hs1 : IntsAt (w1.alloc (.cells #[.int .i64 z] 3)) (.slice (some ⟨w1.heap.size, 0, none⟩) 1 1) [z] := (own_lit w1 [z] (by simp)).ints
      have ho3 := ho2.alloc (.cells #[.int .i64 z] 3)
      have hr3 : Rd (w1.alloc (.cells #[.int .i64 z] 3)) g (P + k + 1) := hrd.below ((Below.refl _ _).alloc (Nat.le_refl _) _)
      have hg3 := grown_alloc hg2 (.cells #[.int .i64 z] 3)
      clear ho1 ho2 hg1 hg2 hgr hrd
      go_wp2_with (at_builtin; refine wpList_append_ints rfl (.tmp 13) (.tmp 17) 24 rfl w.heap.size 3 i0 Tryz.underlying24 hi hz0 hz1 hz2 u5 k _ rfl ho3 (.slice (some ⟨w1.heap.size, 0, none⟩) 1 1) [z] rfl hs1 (by simp; omega) (by simp; omega) ?_; intro v' w2 hown2 hgrow2 _)
      have hr4 : Rd w2 g (P + (k + 1)) := hr3.grown hgrow2 (fun b e => by have := (ho3.lt b e).1; omega)
      have hg4 : w.grownBy w2 (some g) := grown_via hg3 hgrow2 (fun i hi' => (ho3.lt i hi').1)
      have ho4 : w2.ownsRow w.heap.size 3 1 v' (k + 1) ((xs ++ [z]).map (Value.int .i64)) := by simpa using hown2
      clear ho3 hr3 hg3 hown2 hgrow2 hs1
      go_wp2
      go_roundw
      case rel => exact ⟨k + 1, xs ++ [z], by omega, HSM2, by go_num, ho4, hr4, hg4⟩
      case measure => simp [intOf]; omega
    · have hkl : xs.length = k := by simpa using ho.1
      have ho2 := own_new ho (by omega)
      have hr2 : Rd wr g (P + 7) := hr.le (by omega)
      clear ho hr
      go_wp2
      go_ret
      exact ⟨_, rfl, xs, by omega, HSM.out, ho2, hr2, hg⟩

end Go.Proofs.YtflbdfpgaeeleaaGreatDoor
