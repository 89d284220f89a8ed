/-
  What package hmac must say, as propositions; the statements' walks out of them.
-/
import Derived.Test.YtgojemhbkhjffaaDoorHmacRef
import Derived.Test.YtgojemhbkhjffaaDoorTabs
namespace Go.Proofs.YtgojemhbkhjffaaDoor
open Go.ChangeShapes Go.WideShapes Go.ChangeAt Go.RowKit

/-- New memory that may be written. -/
def Fresh (w w' : World) (d : Option Addr) : Prop := ∃ g off, d = some ⟨g, off, none⟩ ∧ w.heap.size ≤ g ∧ ∀ i, w'.frozen? ⟨g, i, none⟩ = false

def HofOk : Prop := ∀ (w : World) (a : Option Addr) (ca : Nat) (key : List UInt8) (b : Option Addr) (cb : Nat) (bs : List UInt8), FTab w → KTab w → Sees w a ca key → Sees w b cb bs → key.length ≤ 2000 → bs.length ≤ 10000 →
  Calls Tryd.prog 10 #[.slice a key.length ca, .slice b bs.length cb] w fun e w' => ∃ d cd r, Hid (r = hmacL key bs) ∧ e = .returned (.tuple #[.slice d r.length cd, .int .i64 0]) ∧ Sees w' d cd r ∧ Below w.heap.size w w'
def HshortOk : Prop := ∀ (w : World) (a : Option Addr) (ca : Nat) (key : List UInt8) (b : Option Addr) (cb : Nat) (bs : List UInt8) (n : Nat), FTab w → KTab w → Sees w a ca key → Sees w b cb bs → key.length ≤ 2000 → bs.length ≤ 10000 → 1 ≤ n → n ≤ 32 →
  Calls Tryd.prog 12 #[.slice a key.length ca, .slice b bs.length cb, .int .i64 (n : Int)] w fun e w' => ∃ d cd r, Hid (r = (hmacL key bs).take n) ∧ e = .returned (.tuple #[.slice d n cd, .int .i64 0]) ∧ r.length = n ∧ Sees w' d cd r ∧ Below w.heap.size w w' ∧ Fresh w w' d
def HshortArg : Prop := ∀ (w : World) (a : Option Addr) (ca n1 : Nat) (b : Option Addr) (cb n2 : Nat) (n : Int), (n < 1 ∨ 32 < n) → Calls Tryd.prog 12 #[.slice a n1 ca, .slice b n2 cb, .int .i64 n] w fun e w' => e = .returned (.tuple #[.slice none 0 0, .int .i64 1]) ∧ Below w.heap.size w w'
def chkL (key bs tag : List UInt8) : Bool := decide (4 ≤ tag.length ∧ tag.length ≤ 32 ∧ (hmacL key bs).take tag.length = tag)
def HcheckAny : Prop := ∀ (w : World) (a : Option Addr) (ca : Nat) (key : List UInt8) (b : Option Addr) (cb : Nat) (bs : List UInt8) (c : Option Addr) (cc : Nat) (tag : List UInt8), FTab w → KTab w → Sees w a ca key → Sees w b cb bs → Sees w c cc tag → key.length ≤ 2000 → bs.length ≤ 10000 →
  Calls Tryd.prog 14 #[.slice a key.length ca, .slice b bs.length cb, .slice c tag.length cc] w fun e w' => e = .returned (.bool (chkL key bs tag)) ∧ Below w.heap.size w w'
def AwakeAny : Prop := ∀ w : World, FTab w → KTab w → Calls Tryd.prog 9 #[] w fun e w' => e = .returned (.bool true) ∧ Below w.heap.size w w'

theorem rhcheck_any (w : World) (a : Option Addr) (ca : Nat) (key : List UInt8) (b : Option Addr) (cb : Nat) (bs : List UInt8) (c : Option Addr) (cc : Nat) (tag : List UInt8) (ha : Sees w a ca key) (hb : Sees w b cb bs) (hc : Sees w c cc tag) (hk : key.length ≤ 2000) (hl : bs.length ≤ 10000) :
    Calls Tryd.prog 15 #[.slice a key.length ca, .slice b bs.length cb, .slice c tag.length cc] w fun e w' => e = .returned (.bool (chkL key bs tag)) ∧ Below w.heap.size w w' := by
  by_cases h : tag.length < 4 ∨ 32 < tag.length
  · have h1 : chkL key bs tag = false := by unfold chkL; simp; omega
    rw [h1]
    refine (rhcheck_no w a key.length ca b bs.length cb c tag.length cc h).mono ?_
    rintro e w' ⟨rfl, rfl⟩
    exact ⟨rfl, Below.refl _ _⟩
  · have h1 : chkL key bs tag = decide ((hmacL key bs).take tag.length = tag) := by
      unfold chkL; simp [show 4 ≤ tag.length by omega, show tag.length ≤ 32 by omega]
    rw [h1]
    exact rhcheck_ok w a ca key b cb bs c cc tag ha hb hc (by omega) (by omega) (by omega) (by omega)

theorem sees_const (w : World) (l : List UInt8) (t : TypeId) (fr : Nat × Nat) (hl : l.length ≤ 1000) : Sees (w.alloc (.cells (l.map cellOf).toArray t fr)) (some ⟨w.heap.size, 0, none⟩) l.length l :=
  ⟨Nat.le_refl _, by unfold maxLen; omega, by simp, fun _ => ⟨w.heap.size, 0, rfl, fun i x hx => by
    rw [cell_of_row _ _ (0 + i) _ _ _ (heap_alloc_new w _), Nat.zero_add]
    simp [hx, cellOf]⟩⟩

set_option maxHeartbeats 1600000 in
theorem awake3 (HOF : HofOk) : AwakeAny := by
  intro w hF hT
  have cv1 := Lib.run_convert_bytes_const (P := Tryd.prog) w 22 5 #[.int .u8 74, .int .u8 101, .int .u8 102, .int .u8 101] 4 4 Tryd.underlying22 Tryd.underlying5
  simp only [List.size_toArray, List.length_cons, List.length_nil, Nat.zero_add, Nat.reduceAdd] at cv1
  obtain ⟨w1, hw1⟩ : ∃ w1, w1 = w.alloc (.cells #[.int .u8 74, .int .u8 101, .int .u8 102, .int .u8 101] 5 (4, 5)) := ⟨_, rfl⟩
  have cv2 := Lib.run_convert_bytes_const (P := Tryd.prog) w1 22 5 #[.int .u8 119, .int .u8 104, .int .u8 97, .int .u8 116, .int .u8 32, .int .u8 100, .int .u8 111, .int .u8 32, .int .u8 121, .int .u8 97, .int .u8 32, .int .u8 119, .int .u8 97, .int .u8 110, .int .u8 116, .int .u8 32, .int .u8 102, .int .u8 111, .int .u8 114, .int .u8 32, .int .u8 110, .int .u8 111, .int .u8 116, .int .u8 104, .int .u8 105, .int .u8 110, .int .u8 103, .int .u8 63] 28 28 Tryd.underlying22 Tryd.underlying5
  simp only [List.size_toArray, List.length_cons, List.length_nil, Nat.zero_add, Nat.reduceAdd] at cv2
  rw [← hw1] at cv1
  obtain ⟨w2, hw2⟩ : ∃ w2, w2 = w1.alloc (.cells #[.int .u8 119, .int .u8 104, .int .u8 97, .int .u8 116, .int .u8 32, .int .u8 100, .int .u8 111, .int .u8 32, .int .u8 121, .int .u8 97, .int .u8 32, .int .u8 119, .int .u8 97, .int .u8 110, .int .u8 116, .int .u8 32, .int .u8 102, .int .u8 111, .int .u8 114, .int .u8 32, .int .u8 110, .int .u8 111, .int .u8 116, .int .u8 104, .int .u8 105, .int .u8 110, .int .u8 103, .int .u8 63] 5 (28, 29)) := ⟨_, rfl⟩
  rw [← hw2] at cv2
  have hb1 : Below w.heap.size w w1 := by rw [hw1]; exact (Below.refl _ _).alloc (Nat.le_refl _) _
  have hb12 : Below w1.heap.size w1 w2 := by rw [hw2]; exact (Below.refl _ _).alloc (Nat.le_refl _) _
  have hb2 : Below w.heap.size w w2 := hb1.trans (hb12.mono hb1.size)
  have s1 : Sees w1 (some ⟨w.heap.size, 0, none⟩) 4 jefe := by rw [hw1]; exact sees_const w jefe 5 (4, 5) (by simp [jefe])
  have s2 : Sees w2 (some ⟨w1.heap.size, 0, none⟩) 28 what := by rw [hw2]; exact sees_const w1 what 5 (28, 29) (by simp [what])
  have hof : Calls Tryd.prog 10 #[.slice (some ⟨w.heap.size, 0, none⟩) 4 4, .slice (some ⟨w1.heap.size, 0, none⟩) 28 28] w2 _ := HOF w2 _ 4 jefe _ 28 what (hF.below hb2) (hT.below hb2) (s1.below hb12) s2 (by simp [jefe]) (by simp [what])
  have CV1 : Hid ((convert 22 22 (.slice (some ⟨w.heap.size, 0, none⟩) 4 4)).run Tryd.prog (w.alloc (.cells #[.int .u8 74, .int .u8 101, .int .u8 102, .int .u8 101] 5)) = .ok (.slice (some ⟨w.heap.size, 0, none⟩) 4 4) w1) := cv1
  clear hF hT s1 s2 hw1 hw2
  go_enter Tryd.func9, Tryd.ntmps9
  go_wp2_with fail
  refine hof.mono ?_
  rintro e w3 ⟨d, cd, r, hr, rfl, hs1, hb3⟩
  have hr2 := hr.out.trans hmac_jefe
  have hrl : r.length = 32 := by rw [hr2]; rfl
  obtain ⟨rb, ro, rfl, hc⟩ := hs1.at' (by rw [hr2]; simp)
  have c0 : w3.cell? ⟨rb, ro, none⟩ = some (.int .u8 91) := hc 0 0x5b (by rw [hr2]; rfl)
  have c31 : w3.cell? ⟨rb, ro + 31, none⟩ = some (.int .u8 67) := hc 31 0x43 (by rw [hr2]; rfl)
  clear hof hr2 hc hr
  go_wp2
  go_ret
  exact ⟨rfl, hb2.trans (hb3.mono hb2.size)⟩
end Go.Proofs.YtgojemhbkhjffaaDoor
