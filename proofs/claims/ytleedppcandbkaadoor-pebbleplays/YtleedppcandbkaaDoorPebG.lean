/-
  A pebble under way, seen from the world in which it was made.
-/
import Derived.Test.YtleedppcandbkaaDoorPebF
namespace Go.Proofs.YtleedppcandbkaaDoor
open Go.ChangeShapes Go.WideShapes Go.ChangeAt Go.RowKit

theorem bounds_u8 {n : Int} (h : (Lit.int .u8 n).wf = true) : 0 ≤ n ∧ n < 256 := by
  simp [Lit.wf, IntKind.min, IntKind.max, IntKind.signed, IntKind.bits] at h
  omega

structure Run (w w' : World) (g b cap : Nat) (cd : Option Addr) (cc : Nat) (key : List UInt8) (n told steps : Nat) (T : List Stone) : Prop where
  peb : Peb w' g b cap (.slice cd 16 cc) key n told steps T
  com : Sees w' cd cc (backL n key)
  bel : Below w.heap.size w w'
  hg : w.heap.size ≤ g
  hb : w.heap.size ≤ b
theorem Born.run {w w' : World} {g b cap : Nat} {cd : Option Addr} {cc : Nat} {seed : List UInt8} {n : Nat} {T : List Stone} (h : Born w w' g b cap cd cc seed n T) : Run w w' g b cap cd cc (lastL seed) n 0 0 T := ⟨h.peb, h.com, h.bel, h.hg, h.hb⟩
theorem Run.below {w w' w'' : World} {g b cap : Nat} {cd : Option Addr} {cc : Nat} {key : List UInt8} {n told steps : Nat} {T : List Stone} (h : Run w w' g b cap cd cc key n told steps T) (hb : Below w'.heap.size w' w'') : Run w w'' g b cap cd cc key n told steps T :=
  ⟨h.peb.keep hb, h.com.below hb, h.bel.trans (hb.mono h.bel.size), h.hg, h.hb⟩
theorem Run.commit {w w' : World} {g b cap : Nat} {cd : Option Addr} {cc : Nat} {key : List UInt8} {n told steps : Nat} {T : List Stone} (h : Run w w' g b cap cd cc key n told steps T) :
    Calls Tryd.prog 10 #[.pointer (some ⟨g, 0, none⟩)] w' fun e w'' => ∃ d c, e = .returned (.slice d 16 c) ∧ Sees w'' d c (backL n key) ∧ Below w'.heap.size w' w'' :=
  commit_ok w' g b cap cd cc key _ n told steps T h.peb h.com (backL_len _ _ h.peb.len)
/-- One more key is told. -/
theorem Run.next {w w' : World} {g b cap : Nat} {cd : Option Addr} {cc : Nat} {key : List UInt8} {n told steps : Nat} {T : List Stone} (h : Run w w' g b cap cd cc key n told steps T) (ht : told < n) (hF : FTab w) (hT : KTab w) (hs : steps ≤ 100000) :
    Calls Tryd.prog 12 #[.pointer (some ⟨g, 0, none⟩)] w' fun e w'' => ∃ b' cap' T' d c, e = .returned (.tuple #[.slice d 16 c, .int .i64 0]) ∧ Run w w'' g b' cap' cd cc key n (told + 1) (stepN told steps (T.map Prod.fst)) T' ∧ T'.map Prod.fst = nextL told (T.map Prod.fst) ∧
      Sees w'' d c (backL (n - (told + 1)) key) ∧ Apart (fun k => k = g ∨ k = b) w' w'' ∧ (b' = b ∨ w'.heap.size ≤ b') := by
  cases T with
  | nil => have := h.peb.good; simp [Good] at this; omega
  | cons x T =>
    refine (next_ok w' g b cap cd cc key n told steps x T h.peb (hF.below h.bel) (hT.below h.bel) hs).mono ?_
    rintro e w'' ⟨b', cap', T', d, c, rfl, hP, hm, hse, ha, hb'⟩
    have hsz := h.bel.size
    refine ⟨b', cap', T', d, c, rfl, ⟨hP, h.peb.sees ha h.com, ha.below h.bel (by rintro k (rfl | rfl); exact h.hg; exact h.hb) hsz, h.hg, ?_⟩, hm, hse, ha, hb'⟩
    rcases hb' with rfl | hb'
    · exact h.hb
    · omega
/-- All were told. -/
theorem Run.over {w w' : World} {g b cap : Nat} {cd : Option Addr} {cc : Nat} {key : List UInt8} {n steps : Nat} {T : List Stone} (h : Run w w' g b cap cd cc key n n steps T) :
    Calls Tryd.prog 12 #[.pointer (some ⟨g, 0, none⟩)] w' fun e w'' => e = .returned (.tuple #[.slice none 0 0, .int .i64 6]) ∧ w'' = w' := by
  have h0 := h.peb.good.nil_iff.2 rfl
  rw [List.map_eq_nil_iff] at h0
  subst h0
  exact next_end w' g b cap cd cc key n n steps h.peb
theorem Run.index {w w' : World} {g b cap : Nat} {cd : Option Addr} {cc : Nat} {key : List UInt8} {n told steps : Nat} {T : List Stone} (h : Run w w' g b cap cd cc key n told steps T) :
    Calls Tryd.prog 11 #[.pointer (some ⟨g, 0, none⟩)] w' fun e w'' => e = .returned (.int .i64 (told : Int)) ∧ w'' = w' := index_ok w' g b cap cd cc key n told steps T h.peb
theorem Run.kept {w w' : World} {g b cap : Nat} {cd : Option Addr} {cc : Nat} {key : List UInt8} {n told steps : Nat} {T : List Stone} (h : Run w w' g b cap cd cc key n told steps T) :
    Calls Tryd.prog 13 #[.pointer (some ⟨g, 0, none⟩)] w' fun e w'' => e = .returned (.int .i64 (T.length : Int)) ∧ w'' = w' := kept_ok w' g b cap cd cc key n told steps T h.peb
theorem Run.steps {w w' : World} {g b cap : Nat} {cd : Option Addr} {cc : Nat} {key : List UInt8} {n told steps : Nat} {T : List Stone} (h : Run w w' g b cap cd cc key n told steps T) :
    Calls Tryd.prog 15 #[.pointer (some ⟨g, 0, none⟩)] w' fun e w'' => e = .returned (.int .i64 (steps : Int)) ∧ w'' = w' := steps_ok w' g b cap cd cc key n told steps T h.peb
/-- Steps are few enough to be counted. -/
theorem stepN_le {n told steps : Nat} {T : List Stone} (hg : Good n told (T.map Prod.fst)) (hn : n ≤ 256) (hs : steps ≤ told * 256) : stepN told steps (T.map Prod.fst) ≤ (told + 1) * 256 := by
  have h0 : topN told (T.map Prod.fst) ≤ 256 := by
    cases T with
    | nil => exact Nat.zero_le _
    | cons x T => have := (hg.mem x.1 (List.mem_cons_self ..)).2; show x.1 - told - 1 ≤ 256; omega
  show steps + topN told (T.map Prod.fst) ≤ (told + 1) * 256
  omega
end Go.Proofs.YtleedppcandbkaaDoor
