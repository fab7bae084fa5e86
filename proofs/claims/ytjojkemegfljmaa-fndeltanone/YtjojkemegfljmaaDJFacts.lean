/-
  Plain facts on by how much what is joined is turned: what is joined is linear on both sides; the contracts at a told answer.
-/
import Derived.Test.YtjojkemegfljmaaDeltaJoin
import Derived.Test.YtjojkemegfljmaaJoinFacts
import Derived.Test.YtjojkemegfljmaaZVals
namespace Go.Proofs.Ytjojkemegfljmaa
open Go.RowKit
set_option linter.unusedVariables false

/-- How often a row is joined of two lists. -/
def bil (x y : Nat) (q : List Int) (a b : List It) : Int := sumG (fun p => sumG (meetG (fun r => if r = q then 1 else 0) x y p) b) a
theorem bil_addL (x y : Nat) (q : List Int) (a a' b : List It) : bil x y q (addZ a a') b = bil x y q a b + bil x y q a' b := sumG_add _ _ _
theorem bil_addR (x y : Nat) (q : List Int) (a b b' : List It) : bil x y q a (addZ b b') = bil x y q a b + bil x y q a b' := by
  unfold bil
  rw [← sumG_plus]
  congr 1
  funext p
  exact sumG_add _ _ _
theorem bil_negL (x y : Nat) (q : List Int) (a b : List It) : bil x y q (negZ a) b = -bil x y q a b := sumG_neg _ _
theorem sumG_minus (f : List Int → Int) : ∀ a : List It, sumG (fun r => -f r) a = - sumG f a
  | [] => rfl
  | p :: a => by rw [sumG, sumG, sumG_minus f a, Int.neg_mul]; omega
theorem bil_negR (x y : Nat) (q : List Int) (a b : List It) : bil x y q a (negZ b) = -bil x y q a b := by
  unfold bil
  rw [← sumG_minus]
  congr 1
  funext p
  exact sumG_neg _ _
theorem getZ_pair (a b : List It) (x y : Int) (q : List Int) : getZ (pairZ a b x y) q = bil x.toNat y.toNat q a b := by
  unfold pairZ bil
  rw [getZ_gAll, sumG_join]
theorem srt_pair (a b : List It) (x y : Int) : Srt (pairZ a b x y) := srt_add Srt.nil
theorem nz_pair (a b : List It) (x y : Int) : Nz (pairZ a b x y) := nz_add nz_nil
theorem srt_dj (a da b db : List It) (x y : Int) : Srt (djZ a da b db x y) := srt_add (srt_add (srt_pair _ _ _ _))
theorem nz_dj (a da b db : List It) (x y : Int) : Nz (djZ a da b db x y) := nz_add (nz_add (nz_pair _ _ _ _))
theorem getZ_dj (a da b db : List It) (x y : Int) (q : List Int) : getZ (djZ a da b db x y) q = bil x.toNat y.toNat q da b + bil x.toNat y.toNat q a db + bil x.toNat y.toNat q da db := by
  unfold djZ
  rw [getZ_add (srt_add (srt_pair _ _ _ _)) (srt_pair _ _ _ _), getZ_add (srt_pair _ _ _ _) (srt_pair _ _ _ _), getZ_pair, getZ_pair, getZ_pair]
theorem pair_nilL (b : List It) (x y : Int) : pairZ [] b x y = [] := rfl
theorem pair_nilR (a : List It) (x y : Int) : pairZ a [] x y = [] := by unfold pairZ; rw [joinZ_none _ _ (.inr rfl)]; rfl
theorem dj_sumZ (a da b db : List It) (x y : Int) : addZ (pairZ a b x y) (djZ a da b db x y) = pairZ (addZ a da) (addZ b db) x y := by
  refine canon (srt_add (srt_pair _ _ _ _)) (nz_add (nz_pair _ _ _ _)) (srt_pair _ _ _ _) (nz_pair _ _ _ _) fun q => ?_
  rw [getZ_add (srt_pair _ _ _ _) (srt_dj _ _ _ _ _ _), getZ_pair, getZ_pair, getZ_dj, bil_addL, bil_addR, bil_addR]; omega
theorem dj_backZ (a da b db : List It) (x y : Int) : djZ (addZ a da) (negZ da) (addZ b db) (negZ db) x y = negZ (djZ a da b db x y) := by
  refine canon (srt_dj _ _ _ _ _ _) (nz_dj _ _ _ _ _ _) (srt_neg (srt_dj _ _ _ _ _ _)) (nz_neg (nz_dj _ _ _ _ _ _)) fun q => ?_
  rw [getZ_neg, getZ_dj, getZ_dj, bil_negL, bil_negR, bil_negR, bil_negL, bil_addL, bil_addR]; omega
theorem dj_rightZ (a b db : List It) (x y : Int) : djZ a [] b db x y = pairZ a db x y := by
  unfold djZ
  rw [pair_nilL, pair_nilL, add_none (srt_pair _ _ _ _) (nz_pair _ _ _ _), addZ_nil]
theorem dj_leftZ (a da b : List It) (x y : Int) : djZ a da b [] x y = pairZ da b x y := by
  unfold djZ
  rw [pair_nilR, pair_nilR, addZ_nil, addZ_nil]
theorem dj_allZ (a b : List It) (x y : Int) : djZ [] a [] b x y = pairZ a b x y := by
  unfold djZ
  rw [pair_nilL, pair_nilR, addZ_nil, add_none (srt_pair _ _ _ _) (nz_pair _ _ _ _)]
theorem can_places {a b : List It} {x y : Int} (h : canB a b x y = true) : placeB x = true ∧ placeB y = true := by
  unfold canB at h
  simp only [Bool.and_eq_true] at h
  exact h.1
theorem can_nilL {b : List It} {x y : Int} (hx : placeB x = true) (hy : placeB y = true) : canB [] b x y = true := by unfold canB; rw [hx, hy]; rfl
theorem can_nilR {a : List It} {x y : Int} (hx : placeB x = true) (hy : placeB y = true) : canB a [] x y = true := by unfold canB; rw [hx, hy]; simp
theorem can_notL {b : List It} {x y : Int} (h : (placeB x && placeB y) = false) (a : List It) : canB a b x y = false := by unfold canB; rw [h]; rfl
theorem dj_true {a da b db : List It} {x y : Int} (h : djOk a da b db x y = true) : (zOkB a = true ∧ zOkB da = true ∧ zOkB b = true ∧ zOkB db = true) ∧ (canB da b x y = true ∧ canB a db x y = true ∧ canB da db x y = true) ∧ zOkB (djZ a da b db x y) = true ∧ djOut a da b db x y = djZ a da b db x y := by
  have h0 := h
  unfold djOk djIn djCan at h0
  simp only [Bool.and_eq_true] at h0
  obtain ⟨⟨⟨⟨⟨h1, h2⟩, h3⟩, h4⟩, ⟨h5, h6⟩, h7⟩, h8⟩ := h0
  exact ⟨⟨h1, h2, h3, h4⟩, ⟨h5, h6, h7⟩, h8, by unfold djOut; rw [h]; rfl⟩
theorem dj_mk {a da b db : List It} {x y : Int} (h1 : zOkB a = true) (h2 : zOkB da = true) (h3 : zOkB b = true) (h4 : zOkB db = true) (h5 : canB da b x y = true) (h6 : canB a db x y = true) (h7 : canB da db x y = true) {s : List It} (hs : djZ a da b db x y = s) (h8 : zOkB s = true) : djOk a da b db x y = true ∧ djOut a da b db x y = s := by
  have : djOk a da b db x y = true := by unfold djOk djIn djCan; rw [h1, h2, h3, h4, h5, h6, h7, hs, h8]; rfl
  exact ⟨this, by unfold djOut; rw [this, hs]; rfl⟩
theorem dj_false {a da b db : List It} {x y : Int} (h : djOk a da b db x y = false) : djOut a da b db x y = [] := by unfold djOut; rw [h]; rfl
theorem joinOut_pair {a b : List It} {x y : Int} (h : joinOk a b x y = true) : joinOut a b x y = pairZ a b x y ∧ zOkB (pairZ a b x y) = true := ⟨(join_true h).2.2.2.2, (join_true h).2.2.2.1⟩

/-- FnDeltaJoin: what was joined, and by how much it is turned, is what is joined then. -/
theorem dj_sum {a da b db : List It} {x y : Int} (hok : djOk a da b db x y = true) (h1 : addOk a da = true) (h2 : addOk b db = true) (h3 : joinOk a b x y = true) (h4 : joinOk (addOut a da) (addOut b db) x y = true) :
    addOk (joinOut a b x y) (djOut a da b db x y) = true ∧ addOut (joinOut a b x y) (djOut a da b db x y) = joinOut (addOut a da) (addOut b db) x y := by
  obtain ⟨_, _, hz, ho⟩ := dj_true hok
  obtain ⟨j1, j2⟩ := joinOut_pair h3
  obtain ⟨k1, k2⟩ := joinOut_pair h4
  rw [ho, j1, k1]
  rw [(addOk_true h1).2.2.2, (addOk_true h2).2.2.2] at k2 ⊢
  exact add_yes j2 hz (dj_sumZ a da b db x y) k2
/-- FnDeltaLinear: turned by one side alone. -/
theorem dj_right {a b db : List It} {x y : Int} (hp : joinOk a db x y = true) (hb : zOkB b = true) : djOk a [] b db x y = true ∧ djOut a [] b db x y = joinOut a db x y := by
  obtain ⟨ha, hd, hc, hz, ho⟩ := join_true hp
  obtain ⟨px, py⟩ := can_places hc
  rw [ho]
  exact dj_mk ha zOk_nil hb hd (can_nilL px py) hc (can_nilL px py) (dj_rightZ a b db x y) hz
/-- FnDeltaLinear: turned back. -/
theorem dj_back {a da b db : List It} {x y : Int} (hq : djOk a da b db x y = true) (h1 : addOk a da = true) (h2 : addOk b db = true)
    (hr : djOk (addOut a da) (if zOkB da then negZ da else []) (addOut b db) (if zOkB db then negZ db else []) x y = true) :
    djOut (addOut a da) (if zOkB da then negZ da else []) (addOut b db) (if zOkB db then negZ db else []) x y = if zOkB (djOut a da b db x y) then negZ (djOut a da b db x y) else [] := by
  obtain ⟨⟨_, hda, _, hdb⟩, _, hz, ho⟩ := dj_true hq
  rw [(dj_true hr).2.2.2, ho, hz, hda, hdb, (addOk_true h1).2.2.2, (addOk_true h2).2.2.2]
  exact dj_backZ a da b db x y
/-- FnDeltaNone: from nothing on. -/
theorem dj_all (a b : List It) (x y : Int) : djOk [] a [] b x y = joinOk a b x y ∧ djOut [] a [] b x y = joinOut a b x y := by
  have e : djOk [] a [] b x y = joinOk a b x y := by
    unfold djOk djIn djCan joinOk
    rw [dj_allZ, zOk_nil, Bool.true_and, Bool.and_true]
    show _ = (zOkB a && zOkB b && canB a b x y && zOkB (pairZ a b x y))
    cases hp : (placeB x && placeB y) with
    | false => rw [can_notL hp, can_notL hp, can_notL hp]; simp
    | true =>
      rw [Bool.and_eq_true] at hp
      rw [can_nilR hp.1 hp.2, can_nilL hp.1 hp.2, Bool.true_and, Bool.true_and]
  refine ⟨e, ?_⟩
  unfold djOut joinOut
  rw [e, dj_allZ]
  rfl
theorem dj_same {a b : List It} {x y : Int} (ha : zOkB a = true) (hb : zOkB b = true) (hx : placeB x = true) (hy : placeB y = true) : djOk a [] b [] x y = true ∧ djOut a [] b [] x y = [] :=
  dj_mk ha zOk_nil hb zOk_nil (can_nilL hx hy) (can_nilR hx hy) (can_nilL hx hy) (by rw [dj_rightZ, pair_nilR]) zOk_nil
theorem dj_left {a da b : List It} {x y : Int} (hq : djOk a da b [] x y = true) (hr : joinOk da b x y = true) : djOut a da b [] x y = joinOut da b x y := by
  rw [(dj_true hq).2.2.2, dj_leftZ, (joinOut_pair hr).1]

theorem dj_val {v0 v1 v2 v3 : Value} {a da b db os : List It} {x y : Int} {c : Bool} {w : World} (hc : djOk a da b db x y = c) (ho : djOut a da b db x y = os) (h0 : TailZ w v0 a) (h1 : TailZ w v1 da) (h2 : TailZ w v2 b) (h3 : TailZ w v3 db) :
    Calls Try.prog 18 #[v0, v1, v2, v3, .int .i64 x, .int .i64 y] w fun e w' => ∃ v', e = .returned (.tuple #[v', .bool c]) ∧ TailZ w' v' os ∧ Below w.heap.size w w' := by
  subst hc ho
  refine (implDeltaJoin_any v0 v1 v2 v3 a da b db x y w h0.items h1.items h2.items h3.items).mono ?_
  rintro e w' ⟨v', he, hz, hb⟩
  exact ⟨v', he, hz.tail, hb⟩
theorem specDj_val {v0 v1 v2 v3 : Value} {a da b db os : List It} {x y : Int} {c : Bool} {w : World} (hc : djOk a da b db x y = c) (ho : djOut a da b db x y = os) (h0 : TailZ w v0 a) (h1 : TailZ w v1 da) (h2 : TailZ w v2 b) (h3 : TailZ w v3 db) :
    Calls Try.prog 19 #[v0, v1, v2, v3, .int .i64 x, .int .i64 y] w fun e w' => ∃ v', e = .returned (.tuple #[v', .bool c]) ∧ TailZ w' v' os ∧ Below w.heap.size w w' := by
  subst hc ho
  refine (specDeltaJoin_any v0 v1 v2 v3 a da b db x y w h0.items h1.items h2.items h3.items).mono ?_
  rintro e w' ⟨v', he, hz, hb⟩
  exact ⟨v', he, hz.tail, hb⟩

end Go.Proofs.Ytjojkemegfljmaa
