/-
  A node that asks and answers, over plain values: what it holds, and what its acts answer. No contract here.
-/
import Derived.Test.YtahnbljbhfpldaaGreatDoorSealB
import Derived.Test.YtahnbljbhfpldaaGreatDoorSchedA
import Derived.Test.YtahnbljbhfpldaaGreatDoorRateA
namespace Go.Proofs.YtahnbljbhfpldaaGreatDoor
set_option maxRecDepth 20000
structure Ec where
  c : Cf
  ms : List UInt8
  i : Int
  inc : Int
  ct : Nat
  ws : List (Option (Nat × Int))
def ecB (c : Cf) (ms : List UInt8) (i inc : Int) : Bool := okB c && decide (0 ≤ i ∧ i < c.n ∧ 0 ≤ inc ∧ inc ≤ 65535 ∧ ms.length = 16)
def ecNew (c : Cf) (ms : List UInt8) (i inc : Int) : Ec := ⟨c, ms, i, inc, 0, List.replicate c.n.toNat none⟩
structure Ec.ok (s : Ec) : Prop where
  cfg : okB s.c = true
  ms : s.ms.length = 16
  node : 0 ≤ s.i ∧ s.i < s.c.n
  inc : 0 ≤ s.inc ∧ s.inc ≤ 65535
  ct : s.ct ≤ 4294967295
  num : s.ws.length = s.c.n.toNat
  wait : ∀ p ∈ s.ws, ∀ n t, p = some (n, t) → (0 < n ∧ n < 18446744073709551616) ∧ 0 ≤ t ∧ t ≤ 1099511627776
theorem ecB_iff {c : Cf} {ms : List UInt8} {i inc : Int} : ecB c ms i inc = true ↔ okB c = true ∧ 0 ≤ i ∧ i < c.n ∧ 0 ≤ inc ∧ inc ≤ 65535 ∧ ms.length = 16 := by simp [ecB]
theorem ecNew_ok {c : Cf} {ms : List UInt8} {i inc : Int} (h : ecB c ms i inc = true) : (ecNew c ms i inc).ok := by
  obtain ⟨h1, h2, h3, h4, h5, h6⟩ := ecB_iff.1 h
  refine ⟨h1, h6, ⟨h2, h3⟩, ⟨h4, h5⟩, Nat.zero_le _, by simp [ecNew], ?_⟩
  intro p hp n t e
  have := List.eq_of_mem_replicate hp
  rw [this] at e
  cases e
def pairK (ms : List UInt8) (i j : Int) : List UInt8 := (pairP ms i j).1
def Ec.non (s : Ec) : Nat := s.inc.toNat * 4294967296 + (s.ct + 1)
theorem Ec.non_lt {s : Ec} (h : s.ok) (hc : s.ct < 4294967295) : 0 < s.non ∧ s.non < 18446744073709551616 := by
  have := h.inc
  unfold Ec.non
  omega
def ecPing (i jj : Int) (n : Nat) : Fr := ⟨2, i, jj, 0, 0, 0, n, 0, 0, 0, [], [], []⟩
def Ec.askE (s : Ec) (jj now : Int) : Int := if 0 ≤ jj ∧ jj < s.c.n ∧ jj ≠ s.i ∧ timeB now = true then (if 4294967295 ≤ s.ct then 9 else 0) else 1
def Ec.askR (s : Ec) (jj now : Int) : List UInt8 := if s.askE jj now = 0 then sealR (pairK s.ms s.i jj) (ecPing s.i jj s.non) else []
def Ec.askV (s : Ec) (jj now : Int) : Ec := if s.askE jj now = 0 then { s with ct := s.ct + 1, ws := s.ws.set jj.toNat (some (s.non, now)) } else s
theorem Ec.askE_zero {s : Ec} {jj now : Int} : s.askE jj now = 0 ↔ (0 ≤ jj ∧ jj < s.c.n ∧ jj ≠ s.i ∧ timeB now = true) ∧ s.ct < 4294967295 := by
  unfold Ec.askE
  split
  · rename_i h
    split
    · rename_i h2; exact ⟨(fun h => by cases h), fun hh => by have := hh.2; omega⟩
    · rename_i h2; exact ⟨fun _ => ⟨h, by omega⟩, fun _ => rfl⟩
  · rename_i h; exact ⟨(fun h => by cases h), fun h' => absurd h'.1 h⟩
theorem timeB_iff {t : Int} : timeB t = true ↔ 0 ≤ t ∧ t ≤ 1099511627776 := by simp [timeB]
theorem Ec.askV_ok {s : Ec} (h : s.ok) (jj now : Int) : (s.askV jj now).ok := by
  unfold Ec.askV
  split
  · rename_i h0
    obtain ⟨⟨a, b, c, d⟩, e⟩ := Ec.askE_zero.1 h0
    refine ⟨h.cfg, h.ms, h.node, h.inc, by show s.ct + 1 ≤ _; omega, by show (s.ws.set _ _).length = _; rw [List.length_set]; exact h.num, ?_⟩
    intro p hp n t e
    rcases List.mem_or_eq_of_mem_set hp with hp | rfl
    · exact h.wait p hp n t e
    · simp only [Option.some.injEq, Prod.mk.injEq] at e
      obtain ⟨rfl, rfl⟩ := e
      exact ⟨Ec.non_lt h (by omega), timeB_iff.1 d⟩
  · exact h
def Ec.opE (s : Ec) (l : List UInt8) : Int := if getE l ≠ 0 then (getE l : Nat) else if (getF l).k = 1 ∨ (getF l).t ≠ s.i then 1 else if holdsB (pairK s.ms (getF l).f s.i) (getF l) = false then 13 else 0
def Ec.opF (s : Ec) (l : List UInt8) : Fr := if s.opE l = 0 then getF l else Fr.zero
def ecPong (i jj : Int) (n : Nat) (m e st ix : Int) (key : List UInt8) : Fr := ⟨3, i, jj, e, st, 0, n, m, 0, ix, key, [], []⟩
def Ec.repB (s : Ec) (F : Fr) : Bool := decide (F.k = 2 ∧ F.t = s.i) && rightB F
def Ec.repF (s : Ec) (F : Fr) (m e st ix : Int) (key : List UInt8) : Fr := ecPong s.i F.f F.n m e st ix key
def Ec.repE (s : Ec) (F : Fr) (m e st ix : Int) (key : List UInt8) : Int := if s.repB F = true then tagE (pairK s.ms F.f s.i) (s.repF F m e st ix key) else 1
def Ec.repR (s : Ec) (F : Fr) (m e st ix : Int) (key : List UInt8) : List UInt8 := if s.repB F = true then sealR (pairK s.ms F.f s.i) (s.repF F m e st ix key) else []
def Ec.heB (s : Ec) (F : Fr) (now : Int) : Bool := decide (F.k = 3 ∧ F.t = s.i) && rightB F && decide (F.f < s.c.n) && timeB now
def Ec.at? (s : Ec) (F : Fr) : Option (Nat × Int) := (s.ws[F.f.toNat]?).join
def Ec.heE (s : Ec) (F : Fr) (now : Int) : Int :=
  if s.heB F now = true then (match s.at? F with
    | none => 6
    | some (n, t) => if n ≠ F.n ∨ now < t then 6 else if s.c.v < now - t then 12 else 0) else 1
def Ec.heV (s : Ec) (F : Fr) (now : Int) : Ec := if s.heE F now = 0 ∨ s.heE F now = 12 then { s with ws := s.ws.set F.f.toNat none } else s
theorem Ec.heV_ok {s : Ec} (h : s.ok) (F : Fr) (now : Int) : (s.heV F now).ok := by
  unfold Ec.heV
  split
  · refine ⟨h.cfg, h.ms, h.node, h.inc, h.ct, by show (s.ws.set _ _).length = _; rw [List.length_set]; exact h.num, ?_⟩
    intro p hp n t e
    rcases List.mem_or_eq_of_mem_set hp with hp | rfl
    · exact h.wait p hp n t e
    · cases e
  · exact h
structure An where
  f : Int
  lo : Int
  hi : Int
  e : Int
  s : Int
  i : Int
  key : List UInt8
def An.zero : An := ⟨0, 0, 0, 0, 0, 0, []⟩
def Ec.heA (s : Ec) (F : Fr) (now : Int) : An :=
  if s.heE F now = 0 then (match s.at? F with
    | none => An.zero
    | some (_, t) => ⟨F.f, F.m - now, F.m + mostN (now - t) (s.c.r + s.c.l) - now, F.e, F.s, F.i, F.key⟩) else An.zero
end Go.Proofs.YtahnbljbhfpldaaGreatDoor
