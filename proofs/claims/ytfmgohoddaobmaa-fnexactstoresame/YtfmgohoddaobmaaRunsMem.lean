/-
  Runs (lists of items, one behind the other) in memory: as they are read (RunsAt), as they come in (RawRuns), and in memory of the call's own, each run in blocks of its own (OwnR).
-/
import Derived.Test.YtfmgohoddaobmaaItemsMidFnExactFlowSame
import Derived.Test.YtfmgohoddaobmaaItemsIn
namespace Go.Proofs.Ytfmgohoddaobmaa
set_option maxRecDepth 100000
open Go.RowKit

abbrev Rn := List (List It)

/-- The value v is a slice of runs whose elements, in the memory w, are zss. -/
def RunsAt (w : World) (v : Value) (zss : Rn) : Prop :=
  zss.length ≤ 140737488355328 ∧ ∃ (a : Option Addr) (cap : Nat), v = .slice a zss.length cap ∧ (a = none → cap = 0) ∧ zss.length ≤ cap ∧ cap ≤ 9223372036854775807 ∧
    (zss ≠ [] → ∃ b off, a = some ⟨b, off, none⟩ ∧ b < w.heap.size ∧ ∀ j, j < zss.length → ∃ rv, w.cell? ⟨b, off + j, none⟩ = some rv ∧ TailZ w rv (zss.getD j []))

theorem RunsAt.below {w w' : World} {v : Value} {zss : Rn} (h : RunsAt w v zss) (hb : Below w.heap.size w w') : RunsAt w' v zss := by
  obtain ⟨hl, a, cap, rfl, hn, hc1, hc2, hc⟩ := h
  refine ⟨hl, a, cap, rfl, hn, hc1, hc2, fun hne => ?_⟩
  obtain ⟨b, off, rfl, hbl, hcell⟩ := hc hne
  refine ⟨b, off, rfl, Nat.lt_of_lt_of_le hbl hb.size, fun j hj => ?_⟩
  obtain ⟨rv, h1, h2⟩ := hcell j hj
  exact ⟨rv, (hb.cell (p := ⟨b, off + j, none⟩) hbl).trans h1, h2.below hb⟩
theorem RunsAt.cases {w : World} {v : Value} {zss : Rn} (h : RunsAt w v zss) :
    (∃ a cap, zss = [] ∧ v = .slice a 0 cap ∧ (a = none → cap = 0) ∧ cap ≤ 9223372036854775807) ∨
    (∃ b off cap, 0 < zss.length ∧ zss.length ≤ 140737488355328 ∧ zss.length ≤ cap ∧ cap ≤ 9223372036854775807 ∧ v = .slice (some ⟨b, off, none⟩) zss.length cap ∧ b < w.heap.size ∧ ∀ j, j < zss.length → ∃ rv, w.cell? ⟨b, off + j, none⟩ = some rv ∧ TailZ w rv (zss.getD j [])) := by
  obtain ⟨hl, a, cap, rfl, hn, hc1, hc2, hc⟩ := h
  by_cases hx : zss = []
  · subst hx
    exact .inl ⟨a, cap, rfl, rfl, hn, hc2⟩
  · obtain ⟨b, off, rfl, hbl, hcell⟩ := hc hx
    exact .inr ⟨b, off, cap, List.length_pos_iff.2 hx, hl, hc1, hc2, rfl, hbl, hcell⟩
theorem RunsAt.shape {w : World} {v : Value} {zss : Rn} (h : RunsAt w v zss) : ∃ a cap, v = .slice a zss.length cap := by
  obtain ⟨_, a, cap, rfl, _⟩ := h
  exact ⟨_, _, rfl⟩
theorem TailZ.shape1 {w : World} {v : Value} {zs : List It} (h : TailZ w v zs) : ∃ a cap, v = .slice a zs.length cap := by
  obtain ⟨_, a, cap, rfl, _⟩ := h.items
  exact ⟨_, _, rfl⟩

/-- How much runs are. -/
def runsLen (zss : Rn) : Nat := (zss.map fun z => z.length + rowsLen z).sum
theorem runsLen_take {zss : Rn} {k : Nat} (hk : k < zss.length) : runsLen (zss.take (k + 1)) = runsLen (zss.take k) + ((zss.getD k []).length + rowsLen (zss.getD k [])) := by
  unfold runsLen
  rw [List.take_succ_eq_append_getElem hk, List.map_append, List.sum_append]
  simp [List.getD, hk]
theorem runsLen_at {zss : Rn} {k : Nat} (hk : k < zss.length) : (zss.getD k []).length + rowsLen (zss.getD k []) ≤ runsLen zss := by
  have h1 := runsLen_take hk
  have h2 : runsLen zss = runsLen (zss.take (k + 1)) + runsLen (zss.drop (k + 1)) := by
    unfold runsLen
    rw [← List.sum_append, ← List.map_append, List.take_append_drop]
  omega

/-- Runs as they come in, of whatever lengths. -/
def RawRuns (w : World) (v : Value) (zss : Rn) : Prop :=
  zss.length ≤ 9223372036854775807 ∧ ∃ (a : Option Addr) (cap : Nat), v = .slice a zss.length cap ∧
    (zss ≠ [] → ∃ b off, a = some ⟨b, off, none⟩ ∧ b < w.heap.size ∧ ∀ j, j < zss.length → ∃ rv, w.cell? ⟨b, off + j, none⟩ = some rv ∧ RawItems w rv (zss.getD j []))
theorem RawRuns.below {w w' : World} {v : Value} {zss : Rn} (h : RawRuns w v zss) (hb : Below w.heap.size w w') : RawRuns w' v zss := by
  obtain ⟨hl, a, cap, rfl, hc⟩ := h
  refine ⟨hl, a, cap, rfl, fun hne => ?_⟩
  obtain ⟨b, off, rfl, hbl, hcell⟩ := hc hne
  refine ⟨b, off, rfl, Nat.lt_of_lt_of_le hbl hb.size, fun j hj => ?_⟩
  obtain ⟨rv, h1, h2⟩ := hcell j hj
  exact ⟨rv, (hb.cell (p := ⟨b, off + j, none⟩) hbl).trans h1, h2.below hb⟩
theorem RawRuns.shape {w : World} {v : Value} {zss : Rn} (h : RawRuns w v zss) : ∃ a cap, v = .slice a zss.length cap := by
  obtain ⟨_, a, cap, rfl, _⟩ := h
  exact ⟨_, _, rfl⟩
theorem RawItems.shape {w : World} {v : Value} {zs : List It} (h : RawItems w v zs) : ∃ a cap, v = .slice a zs.length cap := by
  obtain ⟨_, a, cap, rfl, _⟩ := h
  exact ⟨_, _, rfl⟩

theorem infoRun : (Try.prog.info? 81).map (fun i => (i.zero, i.size, i.bytes)) = some (some (.slice none 0 0), 1, 24) := by kernel_rfl

theorem ownsRow_only {w w' : World} {lo hi base size n : Nat} {e : TypeId} {v : Value} {xs : List Value} (h : w.ownsRow base e size v n xs) (k : Only lo hi w w') (ha : ∀ b, v.ownBlock = some b → b < lo ∨ hi ≤ b) : w'.ownsRow base e size v n xs := by
  obtain ⟨h1, h2⟩ := h
  refine ⟨h1, ?_⟩
  rcases h2 with h2 | ⟨g, cap, cur, hv, hg, hh, r⟩
  · exact .inl h2
  · exact .inr ⟨g, cap, cur, hv, hg, (k.block g (Array.getElem?_eq_some_iff.1 hh).1 (ha g (by rw [hv]; rfl))).trans hh, r⟩
theorem ownsRow_wide {w : World} {lo base size n : Nat} {e : TypeId} {v : Value} {xs : List Value} (h : w.ownsRow base e size v n xs) (h1 : lo ≤ base) : w.ownsRow lo e size v n xs := by
  obtain ⟨a, b⟩ := h
  refine ⟨a, ?_⟩
  rcases b with b | ⟨g, cap, cur, hv, hg, r⟩
  · exact .inl b
  · exact .inr ⟨g, cap, cur, hv, Nat.le_trans h1 hg, r⟩
/-- Runs of the call's own, one behind the other, in blocks from lo up to hi, none of them the block of v. -/
def RunsIn (w : World) (v : Value) : Nat → Nat → List Value → Rn → Prop
  | lo, hi, [], [] => lo ≤ hi
  | lo, hi, p :: ps, z :: zs => ∃ m1 m2, lo ≤ m1 ∧ m1 ≤ m2 ∧ OwnZ w m1 m2 p z ∧ (∀ b, v.ownBlock = some b → b < m1 ∨ m2 ≤ b) ∧ RunsIn w v m2 hi ps zs
  | _, _, [], _ :: _ => False
  | _, _, _ :: _, [] => False

theorem RunsIn.len {w : World} {v : Value} : ∀ {ps : List Value} {zs : Rn} {lo hi : Nat}, RunsIn w v lo hi ps zs → ps.length = zs.length
  | [], [], _, _, _ => rfl
  | p :: ps, z :: zs, _, _, h => by
    obtain ⟨m1, m2, _, _, _, _, h⟩ := h
    simp [h.len]
  | [], _ :: _, _, _, h => h.elim
  | _ :: _, [], _, _, h => h.elim
theorem RunsIn.le {w : World} {v : Value} : ∀ {ps : List Value} {zs : Rn} {lo hi : Nat}, RunsIn w v lo hi ps zs → lo ≤ hi
  | [], [], _, _, h => h
  | p :: ps, z :: zs, _, _, h => by
    obtain ⟨m1, m2, h1, h2, _, _, h⟩ := h
    have := h.le
    omega
  | [], _ :: _, _, _, h => h.elim
  | _ :: _, [], _, _, h => h.elim
theorem RunsIn.imp {w w' : World} {v v' : Value} : ∀ {ps : List Value} {zs : Rn} {lo hi : Nat}, RunsIn w v lo hi ps zs →
    (∀ m1 m2 p z, lo ≤ m1 → m1 ≤ m2 → m2 ≤ hi → (∀ b, v.ownBlock = some b → b < m1 ∨ m2 ≤ b) → OwnZ w m1 m2 p z → OwnZ w' m1 m2 p z ∧ (∀ b, v'.ownBlock = some b → b < m1 ∨ m2 ≤ b)) → RunsIn w' v' lo hi ps zs
  | [], [], _, _, h, _ => h
  | p :: ps, z :: zs, lo, hi, h, f => by
    obtain ⟨m1, m2, h1, h2, ho, hv, h⟩ := h
    have hle := h.le
    obtain ⟨g1, g2⟩ := f m1 m2 p z h1 h2 hle hv ho
    exact ⟨m1, m2, h1, h2, g1, g2, h.imp fun a b q x ha hb hc hd he => f a b q x (by omega) hb hc hd he⟩
  | [], _ :: _, _, _, h, _ => h.elim
  | _ :: _, [], _, _, h, _ => h.elim
theorem RunsIn.keep {w w' : World} {v : Value} {ps : List Value} {zs : Rn} {lo hi : Nat} (h : RunsIn w v lo hi ps zs) (hb : Below hi w w') : RunsIn w' v lo hi ps zs :=
  h.imp fun _ _ _ _ _ _ h3 h4 h5 => ⟨h5.keep (hb.mono h3), h4⟩
theorem RunsIn.only {w w' : World} {v : Value} {ps : List Value} {zs : Rn} {lo hi a b : Nat} (h : RunsIn w v lo hi ps zs) (k : Only a b w w') (ha : hi ≤ a ∨ b ≤ lo) : RunsIn w' v lo hi ps zs :=
  h.imp fun _ _ _ _ _ _ _ h4 h5 => ⟨h5.only k (by omega), h4⟩
/-- The block of v is written. -/
theorem RunsIn.onlyV {w w' : World} {v : Value} {ps : List Value} {zs : Rn} {lo hi g : Nat} (h : RunsIn w v lo hi ps zs) (hv : v.ownBlock = some g) (k : Only g (g + 1) w w') : RunsIn w' v lo hi ps zs :=
  h.imp fun _ _ _ _ _ _ _ h4 h5 => ⟨h5.only k (by have := h4 g hv; omega), h4⟩
theorem RunsIn.newV {w : World} {v v' : Value} {ps : List Value} {zs : Rn} {lo hi : Nat} (h : RunsIn w v lo hi ps zs) (hv : ∀ b, v'.ownBlock = some b → b < lo ∨ hi ≤ b) : RunsIn w v' lo hi ps zs :=
  h.imp fun _ _ _ _ h1 h2 h3 _ h5 => ⟨h5, fun b hb => by have := hv b hb; omega⟩
theorem RunsIn.wide {w : World} {v : Value} : ∀ {ps : List Value} {zs : Rn} {lo hi lo' hi' : Nat}, RunsIn w v lo hi ps zs → lo' ≤ lo → hi ≤ hi' → RunsIn w v lo' hi' ps zs
  | [], [], _, _, _, _, h, h1, h2 => by have h' : _ ≤ _ := h; show _ ≤ _; omega
  | p :: ps, z :: zs, _, _, _, _, h, h1, h2 => by
    obtain ⟨m1, m2, g1, g2, ho, hv, h⟩ := h
    exact ⟨m1, m2, by omega, g2, ho, hv, h.wide (Nat.le_refl _) h2⟩
  | [], _ :: _, _, _, _, _, h, _, _ => h.elim
  | _ :: _, [], _, _, _, _, h, _, _ => h.elim
theorem RunsIn.snoc {w : World} {v p : Value} {z : List It} {m1 m2 : Nat} (h1 : m1 ≤ m2) (ho : OwnZ w m1 m2 p z) (hv : ∀ b, v.ownBlock = some b → b < m1 ∨ m2 ≤ b) :
    ∀ {ps : List Value} {zs : Rn} {lo hi : Nat}, RunsIn w v lo hi ps zs → hi ≤ m1 → RunsIn w v lo m2 (ps ++ [p]) (zs ++ [z])
  | [], [], lo, hi, h, h2 => by have h' : lo ≤ hi := h; exact ⟨m1, m2, by omega, h1, ho, hv, Nat.le_refl _⟩
  | q :: ps, y :: zs, _, _, h, h2 => by
    obtain ⟨a, b, g1, g2, g3, g4, h⟩ := h
    exact ⟨a, b, g1, g2, g3, g4, RunsIn.snoc h1 ho hv h h2⟩
  | [], _ :: _, _, _, h, _ => h.elim
  | _ :: _, [], _, _, h, _ => h.elim
theorem RunsIn.take {w : World} {v : Value} : ∀ (k : Nat) {ps : List Value} {zs : Rn} {lo hi : Nat}, RunsIn w v lo hi ps zs → RunsIn w v lo hi (ps.take k) (zs.take k)
  | 0, _, _, _, _, h => by rw [List.take_zero, List.take_zero]; exact h.le
  | k + 1, [], [], _, _, h => h
  | k + 1, p :: ps, z :: zs, _, _, h => by
    obtain ⟨a, b, g1, g2, g3, g4, h⟩ := h
    exact ⟨a, b, g1, g2, g3, g4, RunsIn.take k h⟩
  | _ + 1, [], _ :: _, _, _, h => h.elim
  | _ + 1, _ :: _, [], _, _, h => h.elim
/-- One run is written in its place. -/
theorem RunsIn.at {w : World} {v : Value} : ∀ {ps : List Value} {zs : Rn} {lo hi : Nat}, RunsIn w v lo hi ps zs → ∀ j, j < zs.length →
    ∃ m1 m2, lo ≤ m1 ∧ m1 ≤ m2 ∧ m2 ≤ hi ∧ OwnZ w m1 m2 (ps.getD j vn) (zs.getD j []) ∧ (∀ b, v.ownBlock = some b → b < m1 ∨ m2 ≤ b) ∧
      ∀ w' z', Only m1 m2 w w' → OwnZ w' m1 m2 (ps.getD j vn) z' → RunsIn w' v lo hi ps (zs.set j z')
  | [], [], _, _, _, j, hj => by simp at hj
  | p :: ps, z :: zs, lo, hi, h, 0, _ => by
    obtain ⟨a, b, g1, g2, g3, g4, h⟩ := h
    refine ⟨a, b, g1, g2, h.le, by simpa using g3, g4, fun w' z' k o => ?_⟩
    exact ⟨a, b, g1, g2, by simpa using o, g4, h.only k (.inr (Nat.le_refl _))⟩
  | p :: ps, z :: zs, lo, hi, h, j + 1, hj => by
    obtain ⟨a, b, g1, g2, g3, g4, h⟩ := h
    obtain ⟨m1, m2, e1, e2, e3, e4, e5, e6⟩ := h.at j (by simpa using hj)
    refine ⟨m1, m2, by omega, e2, e3, by simpa using e4, e5, fun w' z' k o => ?_⟩
    exact ⟨a, b, g1, g2, g3.only k (.inl e1), g4, e6 w' z' k (by simpa using o)⟩
  | [], _ :: _, _, _, h, _, _ => h.elim
  | _ :: _, [], _, _, h, _, _ => h.elim

/-- Runs of the call's own in blocks from lo up to hi. -/
def OwnR (w : World) (lo hi : Nat) (v : Value) (zss : Rn) : Prop :=
  ∃ ps : List Value, w.ownsRow lo 81 1 v zss.length ps ∧ (∀ k, v.ownBlock = some k → k < hi) ∧ zss.length ≤ 140737488355328 ∧ hi ≤ w.heap.size ∧ RunsIn w v lo hi ps zss

theorem OwnR.hi_le {w : World} {lo hi : Nat} {v : Value} {zss : Rn} (h : OwnR w lo hi v zss) : hi ≤ w.heap.size := by
  obtain ⟨ps, _, _, _, h, _⟩ := h
  exact h
theorem below_only {B : Nat} {w w' : World} (h : Below B w w') : Only B w.heap.size w w' := ⟨h.os, h.tape, h.output, h.size, fun k hk hr => by
  rcases hr with hr | hr
  · exact h.block k hr
  · omega⟩
theorem OwnR.keep {w w' : World} {lo hi : Nat} {v : Value} {zss : Rn} (h : OwnR w lo hi v zss) (hb : Below hi w w') : OwnR w' lo hi v zss := by
  obtain ⟨ps, h1, h2, h3, h4, h5⟩ := h
  exact ⟨ps, ownsRow_only h1 (below_only hb) (fun b hb => .inl (h2 b hb)), h2, h3, Nat.le_trans h4 hb.size, h5.keep hb⟩
theorem OwnR.keep' {w w' : World} {lo hi : Nat} {v : Value} {zss : Rn} (h : OwnR w lo hi v zss) (hb : Below w.heap.size w w') : OwnR w' lo hi v zss := h.keep (hb.mono h.hi_le)
theorem OwnR.only {w w' : World} {lo hi a b : Nat} {v : Value} {zss : Rn} (h : OwnR w lo hi v zss) (k : Only a b w w') (ha : hi ≤ a ∨ b ≤ lo) : OwnR w' lo hi v zss := by
  obtain ⟨ps, h1, h2, h3, h4, h5⟩ := h
  exact ⟨ps, ownsRow_only h1 k (fun c hc => by have := h2 c hc; have := (h1.lt c hc).1; omega), h2, h3, Nat.le_trans h4 k.size, h5.only k ha⟩
theorem OwnR.wide {w : World} {lo hi lo' hi' : Nat} {v : Value} {zss : Rn} (h : OwnR w lo hi v zss) (h1 : lo' ≤ lo) (h2 : hi ≤ hi') (h3 : hi' ≤ w.heap.size) : OwnR w lo' hi' v zss := by
  obtain ⟨ps, g1, g2, g3, g4, g5⟩ := h
  exact ⟨ps, ownsRow_wide g1 h1, fun k hk => Nat.lt_of_lt_of_le (g2 k hk) h2, g3, h3, g5.wide h1 h2⟩
theorem ps_get {w : World} {g n cap lo : Nat} {ps : List Value} {e : TypeId} (h : w.ownsRow lo e 1 (.slice (some ⟨g, 0, none⟩) n cap) n ps) {j : Nat} (hj : j < n) : w.cell? ⟨g, j, none⟩ = some (ps.getD j vn) := by
  have hl : ps.length = n := by simpa using h.1
  rw [h.cellAt j (by omega)]
  simp [List.getD, hl, hj]
theorem OwnR.runs {w : World} {lo hi : Nat} {v : Value} {zss : Rn} (h : OwnR w lo hi v zss) : RunsAt w v zss := by
  obtain ⟨ps, h1, h2, h3, h4, h5⟩ := h
  refine ⟨h3, ?_⟩
  rcases h1.2 with ⟨rfl, hn⟩ | ⟨g, cap, cur, rfl, _, hg, hnc, hcm, _⟩
  · exact ⟨none, 0, by rw [hn], fun _ => rfl, by omega, by omega, fun hne => absurd (List.length_eq_zero_iff.1 hn) hne⟩
  · refine ⟨some ⟨g, 0, none⟩, cap, rfl, fun h => by simp at h, hnc, by have := hcm; simp only [maxLen] at this; omega, fun _ => ⟨g, 0, rfl, (Array.getElem?_eq_some_iff.1 hg).1, fun j hj => ?_⟩⟩
    obtain ⟨m1, m2, _, _, _, ho, _⟩ := h5.at j hj
    exact ⟨_, by rw [Nat.zero_add]; exact ps_get h1 hj, ho.tail⟩
theorem OwnR.nil (w : World) (lo : Nat) (hlo : lo ≤ w.heap.size) : OwnR w lo w.heap.size (.slice none 0 0) [] :=
  ⟨[], World.ownsRow_nil _ _ _ _, fun k hk => by simp [Value.ownBlock] at hk, by simp, Nat.le_refl _, hlo⟩
theorem OwnR.shape {w : World} {lo hi : Nat} {v : Value} {zss : Rn} (h : OwnR w lo hi v zss) : ∃ a cap, v = .slice a zss.length cap := h.runs.shape

end Go.Proofs.Ytfmgohoddaobmaa
