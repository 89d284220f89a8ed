/-
  Tables of how far the others are ahead, over plain numbers. No program here.
-/
import Derived.Test.YtoibndfiolipbaaSchedM
import Derived.Test.YtoibndfiolipbaaIvalMath
namespace Go.Proofs.Ytoibndfiolipbaa

/-- What is known of a node: an interval, and when it was so. -/
structure Kw where
  a : Int
  b : Int
  t : Int
/-- What a table holds. -/
structure Bt where
  c : Cf
  i : Int
  K : Int → Option Kw
/-- What At answers: an interval and an error. -/
structure An where
  a : Int
  b : Int
  e : Int
def noA (e : Int) : An := ⟨0, 0, e⟩
def newT (c : Cf) (i : Int) : Bt := ⟨c, i, fun _ => none⟩
def clrT (v : Bt) : Bt := { v with K := fun _ => none }
def otherB (v : Bt) (f : Int) : Bool := decide (0 ≤ f ∧ f < v.c.n ∧ f ≠ v.i)
def mayF (v : Bt) (f t : Int) : Bool := otherB v f && timeB t
/-- It has grown: a number of microticks has gone. -/
def grwA (a b g d : Int) : An := if mayB g d = true ∧ rightB a b = true then (if rightB (a - spreadN g d) (b + spreadN g d) = true then ⟨a - spreadN g d, b + spreadN g d, 0⟩ else noA 1) else noA 1
def freA (c : Cf) (k : Kw) (t : Int) : An :=
  if t - k.t < 0 ∨ 2 * rndN c < t - k.t then noA 6 else if (grwA k.a k.b (t - k.t) (c.r + c.l)).e = 0 then grwA k.a k.b (t - k.t) (c.r + c.l) else noA 6
def knoA (c : Cf) (k : Option Kw) (t : Int) : An := match k with
  | none => noA 6
  | some k => freA c k t
def atA (v : Bt) (f t : Int) : An := if mayF v f t = true then knoA v.c (v.K f) t else noA 1
/-- What was told is narrowed by what is known. -/
def metA (a b c d : Int) : An := if rightB a b = true ∧ rightB c d = true then (if rightB (mxN a c) (mnN b d) = true then ⟨mxN a c, mnN b d, 0⟩ else noA 6) else noA 1
def narA (x : An) (a b : Int) : An := if x.e = 0 then (if (metA x.a x.b a b).e = 0 then metA x.a x.b a b else ⟨a, b, 0⟩) else ⟨a, b, 0⟩
def oldB (k : Option Kw) (t : Int) : Bool := match k with
  | none => false
  | some k => decide (t < k.t)
def putE (v : Bt) (f a b t : Int) : Int := if otherB v f = true ∧ rightB a b = true ∧ timeB t = true then (if oldB (v.K f) t = true then 10 else 0) else 1
def putK (v : Bt) (f : Int) (k : Kw) : Bt := { v with K := fun x => if x = f then some k else v.K x }
def putT (v : Bt) (f a b t : Int) : Bt := putK v f ⟨(narA (atA v f t) a b).a, (narA (atA v f t) a b).b, t⟩
def putV (v : Bt) (f a b t : Int) : Bt := if putE v f a b t = 0 then putT v f a b t else v
/-- What the table tells, node by node. -/
def frU (v : Bt) (t : Int) : Nat → List Int
  | 0 => []
  | k + 1 => frU v t k ++ (if (atA v k t).e = 0 then [(k : Int)] else [])
def inB (c : Cf) (x : An) : Bool := rightB x.a x.b && decide (0 ≤ c.e ∧ -c.e ≤ x.a ∧ x.b ≤ c.e)
def neU (v : Bt) (t : Int) : Nat → Int
  | 0 => 0
  | k + 1 => neU v t k + (if (k : Int) = v.i then 1 else if (atA v k t).e = 0 ∧ inB v.c (atA v k t) = true then 1 else 0)
def neR (v : Bt) (t : Int) : Nat → Int
  | 0 => 1
  | k + 1 => neR v t k + (if (atA v k t).e = 0 ∧ inB v.c (atA v k t) = true then 1 else 0)
def ofU (v : Bt) (t : Int) : Nat → List (Int × Int)
  | 0 => []
  | k + 1 => ofU v t k ++ (if (k : Int) = v.i then [(0, 0)] else if (atA v k t).e = 0 then [((atA v k t).a, (atA v k t).b)] else [])
def mosV (x : An) (t : Int) : Int := if x.e = 0 then max (t + x.b) 0 else 0

theorem noA_e (e : Int) : (noA e).e = e := rfl
theorem time_in {t : Int} (h : timeB t = true) : 0 ≤ t ∧ t ≤ 1099511627776 := of_decide_eq_true h
theorem other_in {v : Bt} {f : Int} (h : otherB v f = true) : 0 ≤ f ∧ f < v.c.n ∧ f ≠ v.i := of_decide_eq_true h
theorem mayF_in {v : Bt} {f t : Int} (h : mayF v f t = true) : otherB v f = true ∧ timeB t = true := by
  simpa [mayF] using h
theorem at_own (v : Bt) (t : Int) : atA v v.i t = noA 1 := by
  have : mayF v v.i t = false := by simp [mayF, otherB]
  simp [atA, this]

/-- What a table keeps to. -/
structure Bt.ok (v : Bt) : Prop where
  r : okB v.c = true
  i0 : 0 ≤ v.i
  i1 : v.i < v.c.n
  k : ∀ f k, v.K f = some k → rightB k.a k.b = true ∧ 0 ≤ k.t ∧ k.t ≤ 1099511627776
theorem newT_ok {c : Cf} {i : Int} (h : nodeB c i = true) : (newT c i).ok :=
  ⟨(node_ok h).1, (node_ok h).2.1, (node_ok h).2.2, fun _ _ e => by cases e⟩
theorem clrT_ok {v : Bt} (h : v.ok) : (clrT v).ok := ⟨h.r, h.i0, h.i1, fun _ _ e => by cases e⟩
theorem grw_right {a b g d : Int} (h : (grwA a b g d).e = 0) : rightB (grwA a b g d).a (grwA a b g d).b = true := by
  unfold grwA at *
  split at h
  · rename_i h1
    rw [if_pos h1]
    split at h
    · rename_i h2
      rw [if_pos h2]; exact h2
    · cases h
  · cases h
theorem at_right {v : Bt} {f t : Int} (h : (atA v f t).e = 0) : rightB (atA v f t).a (atA v f t).b = true := by
  unfold atA at *
  split at h
  · rename_i h1
    rw [if_pos h1]
    unfold knoA at *
    split at h
    · cases h
    · rename_i k hk
      unfold freA at *
      split at h
      · cases h
      · rename_i h2
        rw [if_neg h2]
        split at h
        · rename_i h3
          rw [if_pos h3]; exact grw_right h3
        · cases h
  · cases h
theorem met_right {a b c d : Int} (h : (metA a b c d).e = 0) : rightB (metA a b c d).a (metA a b c d).b = true := by
  unfold metA at *
  split at h
  · rename_i h1
    rw [if_pos h1]
    split at h
    · rename_i h2
      rw [if_pos h2]; exact h2
    · cases h
  · cases h
theorem nar_right {x : An} {a b : Int} (h : rightB a b = true) : rightB (narA x a b).a (narA x a b).b = true := by
  unfold narA
  split
  · split
    · rename_i h1; exact met_right h1
    · exact h
  · exact h
theorem putE_0 {v : Bt} {f a b t : Int} (h : putE v f a b t = 0) : otherB v f = true ∧ rightB a b = true ∧ timeB t = true ∧ oldB (v.K f) t = false := by
  unfold putE at h
  split at h
  · rename_i h1
    split at h
    · cases h
    · rename_i h2
      exact ⟨h1.1, h1.2.1, h1.2.2, by simpa using h2⟩
  · cases h
theorem putT_ok {v : Bt} (h : v.ok) {f a b t : Int} (hr : rightB a b = true) (ht : timeB t = true) : (putT v f a b t).ok := by
  refine ⟨h.r, h.i0, h.i1, fun x k e => ?_⟩
  have e' : (if x = f then some (⟨(narA (atA v f t) a b).a, (narA (atA v f t) a b).b, t⟩ : Kw) else v.K x) = some k := e
  split at e'
  · cases e'
    exact ⟨nar_right hr, time_in ht⟩
  · exact h.k x k e'
theorem putV_ok {v : Bt} (h : v.ok) (f a b t : Int) : (putV v f a b t).ok := by
  unfold putV
  split
  · rename_i h1
    obtain ⟨_, h2, h3, _⟩ := putE_0 h1
    exact putT_ok h h2 h3
  · exact h
theorem putV_c (v : Bt) (f a b t : Int) : (putV v f a b t).c = v.c := by unfold putV; split <;> rfl
theorem putV_i (v : Bt) (f a b t : Int) : (putV v f a b t).i = v.i := by unfold putV; split <;> rfl

/-- The own node is near by itself. -/
theorem ne_same {v : Bt} (h0 : 0 ≤ v.i) (t : Int) : ∀ k : Nat, neU v t k + (if v.i < (k : Int) then 0 else 1) = neR v t k
  | 0 => by
    have : ¬ v.i < ((0 : Nat) : Int) := by omega
    simp [neU, neR]
    omega
  | k + 1 => by
    have ih := ne_same h0 t k
    have hc : ((k + 1 : Nat) : Int) = (k : Int) + 1 := by omega
    simp only [neU, neR, hc]
    by_cases hk : (k : Int) = v.i
    · have ha : (atA v k t).e = 1 := by rw [hk, at_own]; rfl
      have hq : (if (atA v k t).e = 0 ∧ inB v.c (atA v k t) = true then (1 : Int) else 0) = 0 := if_neg (by rw [ha]; simp)
      have h1 : ¬ v.i < (k : Int) := by omega
      have h2 : v.i < (k : Int) + 1 := by omega
      rw [if_neg h1] at ih
      rw [hq, if_pos hk, if_pos h2]
      omega
    · generalize (if (atA v k t).e = 0 ∧ inB v.c (atA v k t) = true then (1 : Int) else 0) = q
      rw [if_neg hk]
      by_cases hl : v.i < (k : Int)
      · have h2 : v.i < (k : Int) + 1 := by omega
        rw [if_pos hl] at ih
        rw [if_pos h2]; omega
      · have h2 : ¬ v.i < (k : Int) + 1 := by omega
        rw [if_neg hl] at ih
        rw [if_neg h2]; omega
end Go.Proofs.Ytoibndfiolipbaa
