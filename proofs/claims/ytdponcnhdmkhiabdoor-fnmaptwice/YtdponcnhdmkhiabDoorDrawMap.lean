/-
  What is drawn for FnMapTwice: DrawMapOf; and cells in a slice that is grown one by one.
-/
import Derived.Test.YtdponcnhdmkhiabDoorDrawW
import Derived.Test.YtdponcnhdmkhiabDoorDrawC2
import Derived.Test.YtdponcnhdmkhiabDoorMapRow
namespace Go.Proofs.YtdponcnhdmkhiabDoor
open Go.RowKit
set_option linter.unusedVariables false

def celV (cs : List Cel) : List Value := cs.flatMap fun c => [.int .i64 c.k, .int .i64 c.a, .int .i64 c.b, .int .i64 c.n]
theorem celV_snoc (cs : List Cel) (c : Cel) : celV (cs ++ [c]) = celV cs ++ [.int .i64 c.k, .int .i64 c.a, .int .i64 c.b, .int .i64 c.n] := by simp [celV]
theorem celV_at : ∀ (cs : List Cel) (j : Nat), j < cs.length → (celV cs)[j * 4]? = some (.int .i64 (cs.getD j ⟨0, 0, 0, 0⟩).k) ∧ (celV cs)[j * 4 + 1]? = some (.int .i64 (cs.getD j ⟨0, 0, 0, 0⟩).a) ∧ (celV cs)[j * 4 + 2]? = some (.int .i64 (cs.getD j ⟨0, 0, 0, 0⟩).b) ∧ (celV cs)[j * 4 + 3]? = some (.int .i64 (cs.getD j ⟨0, 0, 0, 0⟩).n)
  | [], _, h => by simp at h
  | c :: cs, 0, _ => by simp [celV]
  | c :: cs, j + 1, h => by
    obtain ⟨h0, h1, h2, h3⟩ := celV_at cs j (by simpa using h)
    have e : celV (c :: cs) = [.int .i64 c.k, .int .i64 c.a, .int .i64 c.b, .int .i64 c.n] ++ celV cs := by simp [celV]
    rw [e]
    have k : ∀ i, ([.int .i64 c.k, .int .i64 c.a, .int .i64 c.b, .int .i64 c.n] ++ celV cs)[(j + 1) * 4 + i]? = (celV cs)[j * 4 + i]? := fun i => by
      rw [List.getElem?_append_right (by simp; omega)]
      congr 1
      simp; omega
    refine ⟨(k 0).trans (by simpa [List.getD] using h0), (k 1).trans (by simpa [List.getD] using h1), (k 2).trans (by simpa [List.getD] using h2), (k 3).trans (by simpa [List.getD] using h3)⟩
theorem owns_cels {w : World} {base : Nat} {v : Value} {cs : List Cel} (h : w.ownsRow base 31 4 v cs.length (celV cs)) : CelsAt w v cs := by
  have h0 := h
  obtain ⟨_, h2⟩ := h0
  rcases h2 with ⟨rfl, hn⟩ | ⟨g, cap, cur, rfl, _⟩
  · have : cs = [] := List.length_eq_zero_iff.1 hn
    subst this
    exact ⟨none, 0, rfl, fun e => absurd rfl e⟩
  · refine ⟨_, cap, rfl, fun _ => ⟨g, 0, rfl, (h.lt g rfl).2, fun j hj => ?_⟩⟩
    obtain ⟨h0, h1, h2, h3⟩ := celV_at cs j hj
    simp only [Nat.zero_add]
    exact ⟨(h.cellAt _ (by omega)).trans h0, (h.cellAt _ (by omega)).trans h1, (h.cellAt _ (by omega)).trans h2, (h.cellAt _ (by omega)).trans h3⟩
theorem infoC4 : (Tryd.prog.info? 31).map (fun i => (i.zero, i.size, i.bytes)) = some (some (.agg #[.int .i64 0, .int .i64 0, .int .i64 0, .int .i64 0]), 4, 32) := by kernel_rfl
theorem CelsAt.first {w : World} {a : Option Addr} {n cap cap' : Nat} {cs : List Cel} (h : CelsAt w (.slice a n cap) cs) (h1 : 1 ≤ cs.length) : CelsAt w (.slice a 1 cap') (cs.take 1) := by
  obtain ⟨a', c', e, hc⟩ := h
  simp at e
  have hl : (cs.take 1).length = 1 := by rw [List.length_take]; omega
  refine ⟨a, cap', by rw [hl], fun _ => ?_⟩
  obtain ⟨b, off, e2, hb, hcell⟩ := hc (fun e => by rw [e] at h1; simp at h1)
  refine ⟨b, off, e.1.trans e2, hb, fun j hj => ?_⟩
  rw [hl] at hj
  obtain rfl : j = 0 := by omega
  have := hcell 0 (by omega)
  have e3 : (cs.take 1).getD 0 ⟨0, 0, 0, 0⟩ = cs.getD 0 ⟨0, 0, 0, 0⟩ := by
    match cs, h1 with
    | c :: r, _ => rfl
  rw [e3]
  exact this

set_option maxRecDepth 100000 in
set_option maxHeartbeats 4000000 in
theorem drawMapOf_any (a : Option Addr) (len cap : Nat) (bs : List Int) (w : World) (h : IsRow .u8 w a len cap bs) :
    Calls Tryd.prog 6 #[.slice a len cap] w fun e w' =>
      ∃ (v : Value) (ua : Option Addr) (uc : Nat) (cs : List Cel) (zs : List It), e = .returned (.tuple #[v, .slice ua cs.length uc]) ∧ cs.length ≤ 3 ∧ cs.length ≤ uc ∧ uc ≤ maxLen ∧ GoodZ zs ∧ TailZ w' v zs ∧ CelsAt w' (.slice ua cs.length uc) cs ∧ Below w.heap.size w w' := by
  obtain ⟨i0, hi, hz0, hz1, hz2⟩ := info_parts infoC4
  go_enter Tryd.func6, Tryd.ntmps6
  go_wp2_with fail
  refine (l12Open_any a len cap bs _ h).mono ?_
  rintro e w1 ⟨rfl, hrd1, hb1⟩
  have B1 : Hid (Below w.heap.size w w1) := hb1
  have hs1 := hb1.size
  clear hb1 h
  obtain ⟨g, hg⟩ : ∃ g, g = w.heap.size := ⟨_, rfl⟩
  rw [← hg] at hrd1 hs1 ⊢
  have HG : Hid (g = w.heap.size) := hg
  clear hg
  go_wp2_with fail
  refine (l5Wide_any g _ _ (by omega) hrd1).mono ?_
  rintro e w2 ⟨v, wd, rfl, ⟨hwd1, hwd2⟩, zs, hgz, hd2, hrd2, hg2⟩
  have hgl := hrd2.lt
  have B2 : Hid (Below w.heap.size w w2) := B1.out.grown hg2 B1.out.size (fun k hk => by simp at hk; have := HG.out; omega)
  have HGZ : Hid (GoodZ zs) := hgz
  have HD2 : Hid (Drawn w2 g v zs) := hd2
  clear hg2 hrd1 hgz hd2
  have ho1 : (w2.alloc (.cells #[] 31)).ownsRow w2.heap.size 31 4 (.slice (some ⟨w2.heap.size, 0, none⟩) 0 0) 0 [] := World.ownsRow_lit w2 #[] 0 (Nat.le_refl _) (by unfold maxLen; omega) rfl
  have hr1 := hrd2.below (bel_alloc (.cells #[] 31))
  have hg1 : w2.grownBy (w2.alloc (.cells #[] 31)) (some g) := World.grownBy_alloc w2 _ _
  clear hrd2
  go_wp2_with fail
  refine (pick_any g _ 3 _ (by omega) (by omega) (by omega) hr1).mono ?_
  rintro e w3 ⟨n, hn0, hn3, rfl, hrd3, hg3⟩
  obtain ⟨n, rfl⟩ := Int.eq_ofNat_of_zero_le hn0
  have HR3 : Hid (Rd w3 g 700) := hrd3.le (by omega)
  have ho3 := ho1.kept hg3 (.inr fun e => by have := (ho1.lt g e).1; omega)
  have hG3 := grown_trans hg1 hg3
  clear hrd3 hr1 ho1 hg1 hg3
  go_wp2
  go_loopw [7, 8] (fun s i wr => ∃ (k : Nat) (cs : List Cel), k ≤ 3 ∧ cs.length + k ≤ 3 ∧ i = .int .i64 k ∧ wr.ownsRow w2.heap.size 31 4 s cs.length (celV cs) ∧ Rd wr g (700 + 5 * cs.length) ∧ w2.grownBy wr (some g)) (fun _ i _ => (intOf i).toNat)
  case atStart => exact ⟨n + 1, [], by omega, by simp; omega, by go_num, ho3, HR3.out, hG3⟩
  case round =>
    obtain ⟨k, cs, hk3, hck, rfl, ho, hr, hg⟩ := hrel
    clear ho3 HR3 hG3
    by_cases hlt : 0 < k
    · go_wp2_with fail
      refine (l3CellBent_any g _ wd _ hwd1 (by omega) (by omega) hr).mono ?_
      rintro e w4 ⟨⟨ck, ca, cb, cn⟩, rfl, _, hrd4, hg4⟩
      have ho4 := ho.kept hg4 (.inr fun e => by have := (ho.lt g e).1; omega)
      have hg5 := grown_alloc (grown_trans hg hg4) (.cells #[.int .i64 ck, .int .i64 ca, .int .i64 cb, .int .i64 cn] 31)
      have ho5 := ho4.alloc (.cells #[.int .i64 ck, .int .i64 ca, .int .i64 cb, .int .i64 cn] 31)
      have hr5 := hrd4.below (bel_alloc (.cells #[.int .i64 ck, .int .i64 ca, .int .i64 cb, .int .i64 cn] 31))
      have hsz : w2.heap.size ≤ w4.heap.size := (grown_trans hg hg4).size
      clear ho4 hrd4 hg4 ho hr hg
      go_wp2_with (at_builtin; refine wpList_append_own _ rfl (.tmp 24) (.tmp 28) 24 rfl w2.heap.size 31 i0 (.agg #[.int .i64 0, .int .i64 0, .int .i64 0, .int .i64 0]) 4 32 Tryd.underlying24 hi hz0 hz1 hz2 rfl (by decide) u7 cs.length _ rfl ho5 ⟨w4.heap.size, 0, none⟩ 1 1 [.int .i64 ck, .int .i64 ca, .int .i64 cb, .int .i64 cn] rfl rfl (fun j u hj => by match j, hj with | 0, hj => simp at hj; subst hj; simp [Addr.add] | 1, hj => simp at hj; subst hj; simp [Addr.add] | 2, hj => simp at hj; subst hj; simp [Addr.add] | 3, hj => simp at hj; subst hj; simp [Addr.add] | j + 4, hj => simp at hj) (fun u hu => by simp at hu; rcases hu with rfl | rfl | rfl | rfl <;> rfl) (by unfold maxLen; omega) (by omega) (by simp; omega) ?_; intro v' w5 hown5 hgrow5 _)
      have ho6 : w5.ownsRow w2.heap.size 31 4 v' (cs ++ [(⟨ck, ca, cb, cn⟩ : Cel)]).length (celV (cs ++ [⟨ck, ca, cb, cn⟩])) := by rw [celV_snoc]; simpa using hown5
      have hr6 : Rd w5 g (700 + 5 * (cs ++ [(⟨ck, ca, cb, cn⟩ : Cel)]).length) := (hr5.grown hgrow5 (fun b e => by have := (ho5.lt b e).1; omega)).le (by simp; omega)
      have hg6 : w2.grownBy w5 (some g) := grown_via hg5 hgrow5 (fun i hi' => (ho5.lt i hi').1)
      clear hown5 hgrow5 ho5 hr5 hg5
      go_wp2
      go_roundw
      case rel => exact ⟨k - 1, cs ++ [⟨ck, ca, cb, cn⟩], by omega, by simp; omega, by go_num, ho6, hr6, hg6⟩
      case measure => simp [intOf]; omega
    · obtain rfl : k = 0 := by omega
      go_wp2_with fail
      refine (pick_any g _ 16 _ (by omega) (by omega) (by omega) hr).mono ?_
      rintro e w4 ⟨q, hq0, hq5, rfl, hrd4, hg4⟩
      have ho4 := ho.kept hg4 (.inr fun e => by have := (ho.lt g e).1; omega)
      have hG4 := grown_trans hg hg4
      have T4 : Hid (TailZ w4 v zs) := (HD2.out.next hG4).now
      have B4 : Hid (Below w.heap.size w w4) := B2.out.grown hG4 B2.out.size (fun k hk => by simp at hk; have := HG.out; omega)
      have HC4 : Hid (CelsAt w4 u7 cs) := owns_cels ho4
      obtain ⟨ua, uc, HUU, HUC⟩ : ∃ ua uc, Hid (u7 = .slice ua cs.length uc) ∧ Hid (cs.length ≤ uc ∧ uc ≤ maxLen) := by
        rcases ho4.2 with ⟨e, h0⟩ | ⟨g, c, cur, e, _, _, h1, h2, _⟩
        · exact ⟨none, 0, by rw [Hid, h0]; exact e, by omega, by unfold maxLen; omega⟩
        · exact ⟨_, c, e, h1, h2⟩
      have hue := HUU.out
      subst hue
      clear HUU hrd4 hg4 ho4 hG4 ho hr hg HD2 B2 hi hz0 hz1 hz2
      by_cases hq : q = 0
      · subst hq
        go_wp2
        go_ret2
        exact ⟨v, _, _, [], zs, rfl, by simp, by simp, by unfold maxLen; omega, HGZ.out, T4.out.below (bel_alloc _), ⟨_, _, rfl, fun e => absurd rfl e⟩, bel_then B4.out (bel_alloc _)⟩
      · have hqf : (q == 0) = false := by simp [hq]
        clear hq
        go_wp2
        go_ret2
        exact ⟨v, ua, uc, cs, zs, rfl, by omega, HUC.out.1, HUC.out.2, HGZ.out, T4.out, HC4.out, B4.out⟩

end Go.Proofs.YtdponcnhdmkhiabDoor
