/-
  What is drawn off a code: two lists of items; one; one and a row.
-/
import Derived.Test.YtdleikloneaodaaDrawZ
namespace Go.Proofs.Ytdleikloneaodaa
set_option maxRecDepth 100000
open Go.RowKit

theorem open_below {w w1 : World} (h : Below w.heap.size w w1) {w' : World} (hg : w1.grownBy w' (some w.heap.size)) : Below w.heap.size w w' := h.grown hg h.size (fun k e => by simp at e; omega)
theorem TailZ.shape {w : World} {v : Value} {zs : List It} (h : TailZ w v zs) : ∃ a cap, v = .slice a zs.length cap := by
  obtain ⟨l, rfl, ⟨_, a, c, rfl, _⟩, _⟩ := h
  exact ⟨a, c, by rw [prs_length, its_length]⟩

set_option maxHeartbeats 4000000 in
theorem l2Two_any (a : Option Addr) (len cap : Nat) (bs : List Int) (w : World) (h : IsRow .u8 w a len cap bs) :
    Calls Try.prog 22 #[.slice a len cap] w fun e w' => ∃ v1 v2, e = .returned (.tuple #[v1, v2]) ∧ ∃ zs ys : List It, GoodZ zs ∧ GoodZ ys ∧ TailZ w' v1 zs ∧ TailZ w' v2 ys ∧ Below w.heap.size w w' := by
  go_enter Try.func22, Try.ntmps22
  go_wp2_with fail
  refine (l12Open_any a len cap bs _ h).mono ?_
  rintro e w1 ⟨rfl, hrd1, hb1⟩
  clear h
  go_wp2_with fail
  refine (l2Bent_any _ _ _ (by omega) hrd1).mono ?_
  rintro e w2 ⟨v2, rfl, zs, hgz, hd2, hrd2, hg2⟩
  have hk2 := open_below hb1 hg2
  clear hrd1 hg2
  go_wp2_with fail
  refine (pick_any _ _ 5 _ (by omega) (by omega) (by omega) hrd2).mono ?_
  rintro e w3 ⟨q, hq0, hq5, rfl, hrd3, hg3⟩
  have hd3 := hd2.next hg3
  have hk3 : Below w.heap.size w w3 := hk2.grown hg3 hk2.size (fun k e => by simp at e; omega)
  have HGZ : Hid (GoodZ zs) := hgz
  clear hrd2 hg3 hd2 hk2 hgz hb1
  by_cases hq : q = 0
  · subst hq
    have hm := HGZ.out.mild
    go_wp2_with fail
    refine (l2Copy_any v2 zs _ hd3.now.items hm.1 hm.2.1).mono ?_
    rintro e w4 ⟨v4, rfl, Z4, hb4⟩
    have HK : Hid (Below w.heap.size w w4) := below_then hk3 hb4
    have HT1 : Hid (TailZ w4 v2 zs) := hd3.now.below hb4
    have HT2 : Hid (TailZ w4 v4 zs) := Z4.tail
    clear hd3 hrd3 hk3 Z4 hb4 hm
    go_wp2
    go_ret2
    exact ⟨_, _, rfl, zs, zs, HGZ.out, HGZ.out, HT1.out, HT2.out, HK.out⟩
  · have hqf : (q == 0) = false := by simp [hq]
    clear hq
    go_wp2_with fail
    refine (l2Bent_any _ _ _ (by omega) hrd3).mono ?_
    rintro e w4 ⟨v4, rfl, ys, hgy, hd4, hrd4, hg4⟩
    have HK : Hid (Below w.heap.size w w4) := hk3.grown hg4 hk3.size (fun k e => by simp at e; omega)
    have HT1 : Hid (TailZ w4 v2 zs) := (hd3.next hg4).now
    have HT2 : Hid (TailZ w4 v4 ys) := hd4.now
    have HGY : Hid (GoodZ ys) := hgy
    clear hd3 hd4 hrd3 hrd4 hk3 hg4 hgy
    go_wp2
    go_ret2
    exact ⟨_, _, rfl, zs, ys, HGZ.out, HGY.out, HT1.out, HT2.out, HK.out⟩

theorem drawZAdd_any (a : Option Addr) (len cap : Nat) (bs : List Int) (w : World) (h : IsRow .u8 w a len cap bs) :
    Calls Try.prog 7 #[.slice a len cap] w fun e w' => ∃ v1 v2, e = .returned (.tuple #[v1, v2]) ∧ ∃ zs ys : List It, GoodZ zs ∧ GoodZ ys ∧ TailZ w' v1 zs ∧ TailZ w' v2 ys ∧ Below w.heap.size w w' := by
  go_enter Try.func7, Try.ntmps7
  go_wp2_with fail
  refine (l2Two_any a len cap bs _ h).mono ?_
  rintro e w1 ⟨v1, v2, rfl, zs, ys, hgz, hgy, t1, t2, hb⟩
  have R : Hid (∃ zs ys : List It, GoodZ zs ∧ GoodZ ys ∧ TailZ w1 v1 zs ∧ TailZ w1 v2 ys ∧ Below w.heap.size w w1) := ⟨zs, ys, hgz, hgy, t1, t2, hb⟩
  clear h hgz hgy t1 t2 hb
  go_wp2
  go_ret2
  exact ⟨_, _, rfl, R.out⟩

theorem drawZOk_any (a : Option Addr) (len cap : Nat) (bs : List Int) (w : World) (h : IsRow .u8 w a len cap bs) :
    Calls Try.prog 16 #[.slice a len cap] w fun e w' => ∃ v, e = .returned v ∧ ∃ zs : List It, GoodZ zs ∧ TailZ w' v zs ∧ Below w.heap.size w w' := by
  go_enter Try.func16, Try.ntmps16
  go_wp2_with fail
  refine (l12Open_any a len cap bs _ h).mono ?_
  rintro e w1 ⟨rfl, hrd1, hb1⟩
  clear h
  go_wp2_with fail
  refine (l2Bent_any _ _ _ (by omega) hrd1).mono ?_
  rintro e w2 ⟨v2, rfl, zs, hgz, hd2, hrd2, hg2⟩
  have R : Hid (∃ zs : List It, GoodZ zs ∧ TailZ w2 v2 zs ∧ Below w.heap.size w w2) := ⟨zs, hgz, hd2.now, open_below hb1 hg2⟩
  clear hrd1 hrd2 hb1 hg2 hgz hd2
  go_wp2
  go_ret
  exact ⟨_, rfl, R.out⟩

theorem drawZNeg_any (a : Option Addr) (len cap : Nat) (bs : List Int) (w : World) (h : IsRow .u8 w a len cap bs) :
    Calls Try.prog 21 #[.slice a len cap] w fun e w' => ∃ v, e = .returned v ∧ ∃ zs : List It, GoodZ zs ∧ TailZ w' v zs ∧ Below w.heap.size w w' := by
  go_enter Try.func21, Try.ntmps21
  go_wp2_with fail
  refine (l12Open_any a len cap bs _ h).mono ?_
  rintro e w1 ⟨rfl, hrd1, hb1⟩
  clear h
  go_wp2_with fail
  refine (l2Bent_any _ _ _ (by omega) hrd1).mono ?_
  rintro e w2 ⟨v2, rfl, zs, hgz, hd2, hrd2, hg2⟩
  have R : Hid (∃ zs : List It, GoodZ zs ∧ TailZ w2 v2 zs ∧ Below w.heap.size w w2) := ⟨zs, hgz, hd2.now, open_below hb1 hg2⟩
  clear hrd1 hrd2 hb1 hg2 hgz hd2
  go_wp2
  go_ret
  exact ⟨_, rfl, R.out⟩

theorem drawZPos_any (a : Option Addr) (len cap : Nat) (bs : List Int) (w : World) (h : IsRow .u8 w a len cap bs) :
    Calls Try.prog 17 #[.slice a len cap] w fun e w' => ∃ v, e = .returned v ∧ ∃ zs : List It, GoodZ zs ∧ TailZ w' v zs ∧ Below w.heap.size w w' := by
  go_enter Try.func17, Try.ntmps17
  go_wp2_with fail
  refine (l12Open_any a len cap bs _ h).mono ?_
  rintro e w1 ⟨rfl, hrd1, hb1⟩
  clear h
  go_wp2_with fail
  refine (l2Bent_any _ _ _ (by omega) hrd1).mono ?_
  rintro e w2 ⟨v2, rfl, zs, hgz, hd2, hrd2, hg2⟩
  have R : Hid (∃ zs : List It, GoodZ zs ∧ TailZ w2 v2 zs ∧ Below w.heap.size w w2) := ⟨zs, hgz, hd2.now, open_below hb1 hg2⟩
  clear hrd1 hrd2 hb1 hg2 hgz hd2
  go_wp2
  go_ret
  exact ⟨_, rfl, R.out⟩

set_option maxHeartbeats 4000000 in
theorem drawZGet_any (a : Option Addr) (len cap : Nat) (bs : List Int) (w : World) (h : IsRow .u8 w a len cap bs) :
    Calls Try.prog 14 #[.slice a len cap] w fun e w' => ∃ v rv, e = .returned (.tuple #[v, rv]) ∧ ∃ (zs : List It) (r : List Int), GoodZ zs ∧ r.length ≤ 7 ∧ Small r ∧ TailZ w' v zs ∧ IntsAt w' rv r ∧ Below w.heap.size w w' := by
  go_enter Try.func14, Try.ntmps14
  go_wp2_with fail
  refine (l12Open_any a len cap bs _ h).mono ?_
  rintro e w1 ⟨rfl, hrd1, hb1⟩
  clear h
  go_wp2_with fail
  refine (l2Bent_any _ _ _ (by omega) hrd1).mono ?_
  rintro e w2 ⟨v2, rfl, zs, hgz, hd2, hrd2, hg2⟩
  have hk2 := open_below hb1 hg2
  have HGZ : Hid (GoodZ zs) := hgz
  have HGZ1 : zs.length ≤ 200 := hgz.1
  have hgr1 := hrd2.lt
  clear hrd1 hg2 hgz hb1
  obtain ⟨sa, sc, rfl⟩ := hd2.now.shape
  obtain ⟨n, hn⟩ : ∃ n, n = zs.length := ⟨_, rfl⟩
  have HN : Hid (n = zs.length) := hn
  rw [← hn] at HGZ1 hd2 ⊢
  clear hn
  by_cases h0 : 0 < n
  · have h0I : (0 : Int) < (n : Int) := by omega
    go_wp2_with fail
    refine (pick_any _ _ 3 _ (by omega) (by omega) (by omega) hrd2).mono ?_
    rintro e w3 ⟨q, hq0, hq3, rfl, hrd3, hg3⟩
    have hd3 := hd2.next hg3
    have hk3 : Below w.heap.size w w3 := hk2.grown hg3 hk2.size (fun k e => by simp at e; omega)
    clear hrd2 hg3 hd2 hk2
    by_cases hq : 0 < q
    · go_wp2_with fail
      refine (pick_any _ _ n _ (by omega) (by omega) (by omega) hrd3).mono ?_
      rintro e w4 ⟨k, hk0, hkn, rfl, hrd4, hg4⟩
      obtain ⟨k, rfl⟩ := Int.eq_ofNat_of_zero_le hk0
      have hkn' : k < n := by omega
      have hd4 := hd3.next hg4
      have hk4 : Below w.heap.size w w4 := hk3.grown hg4 hk3.size (fun k e => by simp at e; omega)
      have hkz : k < zs.length := by rw [← HN.out]; exact hkn'
      obtain ⟨xv, b, off, rfl, hc0, hix⟩ : ∃ xv b off, sa = some ⟨b, off, none⟩ ∧ w4.cell? ⟨b, off + k * 2, none⟩ = some xv ∧ IntsAt w4 xv (zs.getD k ([], 0)).1 := by
        obtain ⟨_, a', c', e, _, hc⟩ := hd4.now.items
        obtain ⟨b, off, rfl, _, hcell⟩ := hc (fun e => by rw [e] at hkz; simp at hkz)
        obtain ⟨rv, c0, _, c2⟩ := hcell k hkz
        simp at e
        exact ⟨rv, b, off, e.1, c0, c2⟩
      have hrow := HGZ.out.2 _ (getZ_mem hkz)
      obtain ⟨x, HX⟩ : ∃ x, Hid (x = (zs.getD k ([], 0)).1) := ⟨_, rfl⟩
      rw [← HX.out] at hix hrow
      have HT4 : Hid (TailZ w4 (.slice (some ⟨b, off, none⟩) n sc) zs) := hd4.now
      obtain ⟨xa, xn, xc, rfl⟩ := hix.shape
      have HSM : Hid (Small x) := hrow.2.1
      have hx7 := hrow.1
      clear hd3 hd4 hrd3 hrd4 hg4 hk3 hrow hk0 hkn
      go_wp2_with fail
      refine (l1Copy_any _ x _ hix (by omega)).mono ?_
      rintro e w5 ⟨rv5, rfl, O5, hb5⟩
      have HK : Hid (Below w.heap.size w w5) := below_then hk4 hb5
      have HT5 : Hid (TailZ w5 (.slice (some ⟨b, off, none⟩) n sc) zs) := HT4.out.below hb5
      have HI5 : Hid (IntsAt w5 rv5 x) := O5.ints
      clear O5 hb5 hk4 hix hc0
      go_wp2
      go_ret2
      exact ⟨_, _, rfl, zs, x, HGZ.out, hx7, HSM.out, HT5.out, HI5.out, HK.out⟩
    · go_wp2_with fail
      refine (l1Bent_any _ _ _ (by omega) hrd3).mono ?_
      rintro e w5 ⟨rv5, rfl, x, hx7, hsm, O5, hrd5, hg5⟩
      have HK : Hid (Below w.heap.size w w5) := hk3.grown hg5 hk3.size (fun k e => by simp at e; omega)
      have HT5 : Hid (TailZ w5 (.slice sa n sc) zs) := (hd3.next hg5).now
      have HI5 : Hid (IntsAt w5 rv5 x) := O5.ints
      have HSM : Hid (Small x) := hsm
      clear O5 hg5 hk3 hd3 hrd3 hrd5 hsm
      go_wp2
      go_ret2
      exact ⟨_, _, rfl, zs, x, HGZ.out, hx7, HSM.out, HT5.out, HI5.out, HK.out⟩
  · obtain rfl : n = 0 := by omega
    go_wp2_with fail
    refine (l1Bent_any _ _ _ (by omega) hrd2).mono ?_
    rintro e w5 ⟨rv5, rfl, x, hx7, hsm, O5, hrd5, hg5⟩
    have HK : Hid (Below w.heap.size w w5) := hk2.grown hg5 hk2.size (fun k e => by simp at e; omega)
    have HT5 : Hid (TailZ w5 (.slice sa 0 sc) zs) := (hd2.next hg5).now
    have HI5 : Hid (IntsAt w5 rv5 x) := O5.ints
    have HSM : Hid (Small x) := hsm
    clear O5 hg5 hk2 hd2 hrd2 hrd5 hsm
    go_wp2
    go_ret2
    exact ⟨_, _, rfl, zs, x, HGZ.out, hx7, HSM.out, HT5.out, HI5.out, HK.out⟩

end Go.Proofs.Ytdleikloneaodaa
