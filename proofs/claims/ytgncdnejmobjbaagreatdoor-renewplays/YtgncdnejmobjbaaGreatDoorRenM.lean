/-
  A speaker's chain over plain values: what it holds, and what its acts answer. No contract here.
-/
import Derived.Test.YtgncdnejmobjbaaGreatDoorDisR
import Derived.Test.YtgncdnejmobjbaaGreatDoorChainR
namespace Go.Proofs.YtgncdnejmobjbaaGreatDoor
set_option maxRecDepth 20000

/-- What a speaker's chain holds: its epoch and its start are -1 while it is not begun. -/
structure Rn where
  c : Cf
  own : List UInt8
  sl : Int
  ep : Int
  st : Int
def rnB (c : Cf) (own : List UInt8) (sl : Int) : Bool := okB c && decide (own.length = 16 ∧ 0 ≤ sl ∧ sl < c.n)
def rnNew (c : Cf) (own : List UInt8) (sl : Int) : Rn := ⟨c, own, sl, -1, -1⟩
/-- The last key of the chain that is begun; the key of an index. -/
def Rn.last (s : Rn) : List UInt8 := lastL (keyOf s.own epochN [s.ep.toNat])
def Rn.key (s : Rn) (i : Nat) : List UInt8 := backL (s.c.k.toNat - i) s.last
theorem Rn.key_len (s : Rn) (i : Nat) : (s.key i).length = 16 := backL_len _ _ (lastL_len _)
structure Rn.ok (s : Rn) : Prop where
  cfg : okB s.c = true
  own : s.own.length = 16
  slot : 0 ≤ s.sl ∧ s.sl < s.c.n
  ep : (s.ep = -1 ∧ s.st = -1) ∨ (0 ≤ s.ep ∧ s.ep ≤ 65535 ∧ 0 ≤ s.st ∧ s.st < 1048576)
theorem rnB_iff {c : Cf} {own : List UInt8} {sl : Int} : rnB c own sl = true ↔ okB c = true ∧ own.length = 16 ∧ 0 ≤ sl ∧ sl < c.n := by simp [rnB]
theorem rnNew_ok {c : Cf} {own : List UInt8} {sl : Int} (h : rnB c own sl = true) : (rnNew c own sl).ok := by
  obtain ⟨h1, h2, h3, h4⟩ := rnB_iff.1 h
  exact ⟨h1, h2, ⟨h3, h4⟩, .inl ⟨rfl, rfl⟩⟩
/-- Begin. -/
def Rn.begE (s : Rn) (e t : Int) : Int := if 0 ≤ e ∧ e ≤ 65535 ∧ 0 ≤ t ∧ t < 1048576 then (if e ≤ s.ep then 5 else 0) else 1
def Rn.begV (s : Rn) (e t : Int) : Rn := if s.begE e t = 0 then { s with ep := e, st := t } else s
theorem Rn.begE_zero {s : Rn} {e t : Int} : s.begE e t = 0 ↔ (0 ≤ e ∧ e ≤ 65535 ∧ 0 ≤ t ∧ t < 1048576) ∧ ¬ e ≤ s.ep := by
  unfold Rn.begE
  split
  · rename_i h
    split
    · rename_i h2; exact ⟨(fun h => by cases h), fun h => absurd h2 h.2⟩
    · rename_i h2; exact ⟨fun _ => ⟨h, h2⟩, fun _ => rfl⟩
  · rename_i h; exact ⟨(fun h => by cases h), fun h' => absurd h'.1 h⟩
theorem Rn.begV_ok {s : Rn} (h : s.ok) (e t : Int) : (s.begV e t).ok := by
  unfold Rn.begV
  split
  · rename_i h0
    obtain ⟨⟨a, b, c, d⟩, _⟩ := Rn.begE_zero.1 h0
    exact ⟨h.cfg, h.own, h.slot, .inr ⟨a, b, c, d⟩⟩
  · exact h
theorem Rn.begV_same (s : Rn) (e t : Int) : (s.begV e t).c = s.c ∧ (s.begV e t).own = s.own ∧ (s.begV e t).sl = s.sl := by
  unfold Rn.begV
  split <;> exact ⟨rfl, rfl, rfl⟩
/-- An index and an error, as they come from disclose. -/
def idxP (c : Cf) (st r : Int) : Int × Int := if sinB c st r = true then (if keyB c (r - st) = true then (r - st, 0) else (0, 6)) else (0, 1)
def tolP (c : Cf) (st r : Int) : Int × Int := if sinB c st r = true then (if 1 ≤ r - st then (tolN c (r - st), 0) else (0, 6)) else (0, 1)
theorem idxV_eq (c : Cf) (st r : Int) : idxV c st r = .tuple #[.int .i64 (idxP c st r).1, .int .i64 (idxP c st r).2] := by
  unfold idxV idxP
  split
  · split <;> rfl
  · rfl
theorem tolV_eq (c : Cf) (st r : Int) : tolV c st r = .tuple #[.int .i64 (tolP c st r).1, .int .i64 (tolP c st r).2] := by
  unfold tolV tolP
  split
  · split <;> rfl
  · rfl
theorem idxP_in {c : Cf} {st r : Int} (h : (idxP c st r).2 = 0) : sinB c st r = true ∧ 1 ≤ r - st ∧ r - st ≤ c.k ∧ (idxP c st r).1 = r - st := by
  unfold idxP at h ⊢
  split at h
  · rename_i h1
    split at h
    · rename_i h2
      obtain ⟨a, b⟩ := key_in h2
      rw [if_pos h1, if_pos h2]
      exact ⟨h1, a, b, rfl⟩
    · cases h
  · cases h
theorem tolP_in {c : Cf} {st r : Int} (h : (tolP c st r).2 = 0) : sinB c st r = true ∧ 1 ≤ r - st ∧ (tolP c st r).1 = tolN c (r - st) := by
  unfold tolP at h ⊢
  split at h
  · rename_i h1
    split at h
    · rename_i h2
      rw [if_pos h1, if_pos h2]
      exact ⟨h1, h2, rfl⟩
    · cases h
  · cases h
/-- What is told: an index, its key, an error. -/
def Rn.tell (s : Rn) (p : Int × Int) : Int × List UInt8 × Int := if p.2 = 0 then (p.1, s.key p.1.toNat, 0) else (0, [], p.2)
def Rn.mac (s : Rn) (r : Int) : Int × List UInt8 × Int := if s.ep < 0 then (0, [], 5) else s.tell (idxP s.c s.st r)
def Rn.told (s : Rn) (r : Int) : Int × List UInt8 × Int := if s.ep < 0 then (0, [], 5) else s.tell (tolP s.c s.st r)
def Rn.over (s : Rn) (r : Int) : Bool := decide (s.ep < 0) || ovB s.c s.st r
end Go.Proofs.YtgncdnejmobjbaaGreatDoor
