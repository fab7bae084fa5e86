/-
  Plain facts on the rows that are told of groups: each once, in order.
-/
import Derived.Test.YtjbfgfgldchfnaaDoorAggSpec
namespace Go.Proofs.YtjbfgfgldchfnaaDoor

def rowG (z : List It) (ks : List Int) (agg : Int) (col : Nat) (p : It) : List Int := keyZ p.1 ks ++ [aggZ agg col (grpZ z ks (keyZ p.1 ks))]
def oneG (R : It → List Int) (out : List It) (p : It) : List It := if p.2 < 0 then out else if getZ out (R p) = 0 then putZ out (R p) 1 else out
def grpTo (R : It → List Int) (zs : List It) : List It := zs.foldl (oneG R) []
def hasG (R : It → List Int) (zs : List It) (q : List Int) : Bool := zs.any fun p => !decide (p.2 < 0) && decide (R p = q)
def grpCan (z : List It) (ks : List Int) (agg col : Int) : Bool := zOkB z && aggB agg && keysB ks 6 && (haveAll z ks && hasAt col z)
def toldG (z : List It) (ks : List Int) (agg : Int) (col : Nat) (p : It) : Bool := decide (p.2 < 0) || cellB (aggZ agg col (grpZ z ks (keyZ p.1 ks)))
def grpTold (z : List It) (ks : List Int) (agg : Int) (col : Nat) : Bool := z.all (toldG z ks agg col)
def grpOk (z : List It) (ks : List Int) (agg col : Int) : Bool := grpCan z ks agg col && grpTold z ks agg col.toNat
def grpOut (z : List It) (ks : List Int) (agg col : Int) : List It := if grpOk z ks agg col then grpTo (rowG z ks agg col.toNat) z else []

theorem grpTo_snoc (R : It → List Int) (zs : List It) (p : It) : grpTo R (zs ++ [p]) = oneG R (grpTo R zs) p := by simp [grpTo, List.foldl_append]
theorem hasG_snoc (R : It → List Int) (zs : List It) (p : It) (q : List Int) : hasG R (zs ++ [p]) q = (hasG R zs q || (!decide (p.2 < 0) && decide (R p = q))) := by simp [hasG, List.any_append]
/-- What is told: in order, each once. -/
def IsG (out : List It) (H : List Int → Bool) : Prop := Srt out ∧ Nz out ∧ ∀ q, getZ out q = if H q then 1 else 0
theorem isG_nil : IsG [] (fun _ => false) := ⟨Srt.nil, fun p hp => by simp at hp, fun q => by simp [getZ_nil]⟩
theorem isG_one {R : It → List Int} {out : List It} {H : List Int → Bool} (h : IsG out H) (p : It) : IsG (oneG R out p) (fun q => H q || (!decide (p.2 < 0) && decide (R p = q))) := by
  unfold oneG
  by_cases hp : p.2 < 0
  · rw [if_pos hp]
    simpa [hp] using h
  · rw [if_neg hp]
    by_cases h0 : getZ out (R p) = 0
    · rw [if_pos h0]
      refine ⟨srt_put h.1, nz_put h.2.1, fun q => ?_⟩
      rw [getZ_put h.1]
      by_cases e : R p = q
      · rw [if_pos e, ← e, h0]; simp [hp]
      · rw [if_neg e, h.2.2 q]; simp [e]
    · rw [if_neg h0]
      refine ⟨h.1, h.2.1, fun q => ?_⟩
      have h1 := h.2.2 (R p)
      have h2 : H (R p) = true := by
        cases hh : H (R p) with
        | true => rfl
        | false => rw [hh] at h1; exact absurd h1 h0
      rw [h.2.2 q]
      by_cases e : R p = q
      · subst e; simp [h2]
      · simp [e]
theorem isG_to (R : It → List Int) (zs : List It) : IsG (grpTo R zs) (hasG R zs) := by
  have key : ∀ (zs out : List It) (H : List Int → Bool), IsG out H → IsG (zs.foldl (oneG R) out) (fun q => H q || hasG R zs q) := by
    intro zs
    induction zs with
    | nil => intro out H h; simpa [hasG] using h
    | cons p zs ih =>
      intro out H h
      have := ih _ _ (isG_one (R := R) h p)
      rw [List.foldl_cons]
      have e : (fun q => H q || hasG R (p :: zs) q) = fun q => (H q || (!decide (p.2 < 0) && decide (R p = q))) || hasG R zs q := by
        funext q
        simp [hasG, List.any_cons, Bool.or_assoc]
      rw [e]
      exact this
  have := key zs [] _ isG_nil
  simpa [grpTo] using this
theorem getZ_ownG : ∀ {zs : List It}, Srt zs → ∀ p ∈ zs, getZ zs p.1 = p.2
  | q :: zs, h, p, hp => by
    rw [getZ_cons]
    rcases List.mem_cons.1 hp with rfl | hp
    · rw [if_pos rfl]
    · rw [if_neg (ordL_ne ((Srt.cons.1 h).1 p hp))]
      exact getZ_ownG (Srt.cons.1 h).2 p hp
theorem IsG.mem {out : List It} {H : List Int → Bool} (h : IsG out H) {q : It} (hq : q ∈ out) : q.2 = 1 ∧ H q.1 = true := by
  have h1 := getZ_ownG h.1 q hq
  have h2 := h.2.1 q hq
  rw [h.2.2] at h1
  cases hh : H q.1 with
  | true => rw [hh] at h1; exact ⟨h1.symm, rfl⟩
  | false => rw [hh] at h1; exact absurd h1.symm h2
theorem one_len (R : It → List Int) (out : List It) (p : It) : (oneG R out p).length ≤ out.length + 1 := by
  unfold oneG
  by_cases hp : p.2 < 0
  · rw [if_pos hp]; omega
  · rw [if_neg hp]
    by_cases h0 : getZ out (R p) = 0
    · rw [if_pos h0]; exact put_len _ _ _
    · rw [if_neg h0]; omega
theorem grpTo_len (R : It → List Int) (zs : List It) : (grpTo R zs).length ≤ zs.length := by
  have key : ∀ (zs out : List It), (zs.foldl (oneG R) out).length ≤ out.length + zs.length := by
    intro zs
    induction zs with
    | nil => intro out; simp
    | cons p zs ih =>
      intro out
      have h1 := ih (oneG R out p)
      have h2 := one_len R out p
      rw [List.foldl_cons, List.length_cons]; omega
  have := key zs []
  simpa [grpTo] using this
theorem zOk_mkG {zs : List It} (hl : zs.length ≤ 100) (hp : ∀ p ∈ zs, rowOkB p.1 = true ∧ wB p.2 = true) (hs : Srt zs) : zOkB zs = true := by
  refine zOk_all hl fun j hj => ?_
  have h1 := hp _ (getZ_mem hj)
  unfold stepB
  rw [h1.1, h1.2]
  rcases Nat.eq_zero_or_pos j with e | e
  · simp [e]
  · have hj1 : j - 1 < zs.length := by omega
    have h2 := (List.pairwise_iff_getElem.1 hs) (j - 1) j hj1 hj (by omega)
    have h3 : rowLessB (zs.getD (j - 1) ([], 0)).1 (zs.getD j ([], 0)).1 = true := less_of (by simpa [List.getD, hj, hj1] using h2)
    rw [h3]; simp
theorem hasG_mem {R : It → List Int} {zs : List It} {q : List Int} (h : hasG R zs q = true) : ∃ p ∈ zs, ¬ p.2 < 0 ∧ R p = q := by
  unfold hasG at h
  rw [List.any_eq_true] at h
  obtain ⟨p, hp, h2⟩ := h
  rw [Bool.and_eq_true] at h2
  exact ⟨p, hp, by simpa using h2.1, of_decide_eq_true h2.2⟩
theorem zOk_item {z : List It} (hz : zOkB z = true) {p : It} (hp : p ∈ z) : rowOkB p.1 = true ∧ wB p.2 = true := by
  obtain ⟨j, hj, e⟩ := mem_getD (d := ([], 0)) hp
  rw [← e]; exact zOk_row hz hj
theorem rowG_ok {z : List It} {ks : List Int} {agg : Int} {col : Nat} (hz : zOkB z = true) (hk6 : keysB ks 6 = true) (hkz : haveAll z ks = true) {p : It} (hp : p ∈ z) (hc : cellB (aggZ agg col (grpZ z ks (keyZ p.1 ks))) = true) : rowOkB (rowG z ks agg col p) = true := by
  have h1 := keyZ_cells (zOk_item hz hp).1 (fun k hk => have_iff.1 hkz k hk p hp)
  have h2 := (keys_parts hk6).1
  unfold rowG rowOkB
  rw [List.length_append, keyZ_len, List.all_append, h1]
  simp [hc]
  omega
theorem grpTo_ok {z : List It} {ks : List Int} {agg : Int} {col : Nat} (hz : zOkB z = true) (hk6 : keysB ks 6 = true) (hkz : haveAll z ks = true) {zs : List It} (hsub : ∀ p ∈ zs, p ∈ z) (hl : zs.length ≤ 100) (ht : ∀ p ∈ zs, toldG z ks agg col p = true) : zOkB (grpTo (rowG z ks agg col) zs) = true := by
  have hG := isG_to (rowG z ks agg col) zs
  refine zOk_mkG (by have := grpTo_len (rowG z ks agg col) zs; omega) (fun q hq => ?_) hG.1
  obtain ⟨h1, h2⟩ := hG.mem hq
  obtain ⟨p, hp, h3, h4⟩ := hasG_mem h2
  rw [h1, ← h4]
  have h5 := ht p hp
  unfold toldG at h5
  rw [decide_eq_false h3, Bool.false_or] at h5
  exact ⟨rowG_ok hz hk6 hkz (hsub p hp) h5, by decide⟩
theorem grp_fine {z : List It} {col : Nat} (hz : zOkB z = true) (hc : hasAt col z = true) (ks key : List Int) : Fine (grpZ z ks key) col := by
  refine ⟨by have := grpZ_len z ks key; have := zOk_le hz; omega, fun p hp => ?_⟩
  have hpz : p ∈ z := (List.mem_filter.1 hp).1
  obtain ⟨h1, h2⟩ := zOk_item hz hpz
  have h3 := has_iff.1 hc p hpz
  have hlt : col < p.1.length := by omega
  refine ⟨(wB_in h2).2, hlt, ?_⟩
  simp only [rowOkB, Bool.and_eq_true, List.all_eq_true] at h1
  have h4 := h1.2 p.1[col] (List.getElem_mem hlt)
  simp [cellB] at h4
  simpa [List.getD, hlt] using h4
theorem grp_some {z : List It} {p : It} (hp : p ∈ z) (hw : 0 < p.2) (ks : List Int) : 0 < (grpZ z ks (keyZ p.1 ks)).length :=
  List.length_pos_of_mem (List.mem_filter.2 ⟨hp, by simp [hw]⟩)
theorem grp_not {z : List It} {ks : List Int} {agg col : Int} (h : grpOk z ks agg col = false) : grpOut z ks agg col = [] := by unfold grpOut; rw [h]; rfl

end Go.Proofs.YtjbfgfgldchfnaaDoor
