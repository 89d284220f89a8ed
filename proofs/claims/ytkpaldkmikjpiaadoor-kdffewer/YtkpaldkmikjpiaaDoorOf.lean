/-
  The contracts of sha.Of and of 'awake'.
-/
import Derived.Test.YtkpaldkmikjpiaaDoorSum
import Derived.Lib.SlBytesConst
namespace Go.Proofs.YtkpaldkmikjpiaaDoor
open Go.ChangeShapes Go.WideShapes Go.ChangeAt Go.RowKit

theorem Dig.obj' {R : List Value} {ty : TypeId} {w : World} {b : Nat} {bs : List UInt8} (h : Dig R ty w b bs) : ∃ n s v, ObjAt R ty w b n s v := by obtain ⟨a, ho, _⟩ := h.obj; exact ⟨_, _, _, ho⟩

set_option maxHeartbeats 800000 in
set_option maxRecDepth 20000 in
theorem of_own (w : World) (x : Option Addr) (cx : Nat) (bs : List UInt8) (hx : Sees w x cx bs) (hF : FTab w) (hT : KTab w) (hl : bs.length ≤ 1048576) :
    Calls Tryd.prog 35 #[.slice x bs.length cx] w fun e w' => ∃ d cd r, Hid (r = shaL bs) ∧ e = .returned (.tuple #[.slice d r.length cd, .int .i64 0]) ∧ Sees w' d cd r ∧ Below w.heap.size w w' ∧ w'.ownsRow w.heap.size 5 1 (.slice d r.length cd) r.length (r.map cellOf) := by
  have HT : Hid (KTab w) := hT
  have HX : Hid (Sees w x cx bs) := hx
  have hnew := new_any w hF
  clear hT hF hx
  go_enter Tryd.func35, Tryd.ntmps35
  go_wp2_with fail
  refine hnew.mono ?_
  rintro e w1 ⟨rfl, hD1, hb1⟩
  have hw := write_any w1 w.heap.size [] hD1 x cx bs (HX.out.below hb1) (HT.out.below hb1) (by simpa using hl)
  rw [List.nil_append] at hw
  clear hnew
  go_wp2_with fail
  refine hw.mono ?_
  rintro e w2 ⟨rfl, hD2, hbt2⟩
  obtain ⟨n, s, v, ho1⟩ := hD1.obj'
  have hb2 : Below w.heap.size w w2 := hbt2.below hb1 (Nat.le_refl _)
  have hsum := sum_own w2 w.heap.size bs hD2 ((HT.out.below hb1).but ho1 hbt2)
  clear hw ho1 hD1
  go_wp2_with fail
  refine hsum.mono ?_
  rintro e w3 ⟨d, cd, r, hr, rfl, hs3, hb3, ho3⟩
  clear hsum
  go_wp2
  go_ret2
  exact ⟨d, cd, r, hr, rfl, hs3, hb2.trans (hb3.mono hb2.size), ho3.mono hb2.size⟩

theorem of_ok (w : World) (x : Option Addr) (cx : Nat) (bs : List UInt8) (hx : Sees w x cx bs) (hF : FTab w) (hT : KTab w) (hl : bs.length ≤ 1048576) :
    Calls Tryd.prog 35 #[.slice x bs.length cx] w fun e w' => ∃ d cd r, Hid (r = shaL bs) ∧ e = .returned (.tuple #[.slice d r.length cd, .int .i64 0]) ∧ Sees w' d cd r ∧ Below w.heap.size w w' :=
  (of_own w x cx bs hx hF hT hl).mono fun _ _ ⟨d, cd, r, h1, h2, h3, h4, _⟩ => ⟨d, cd, r, h1, h2, h3, h4⟩

set_option maxHeartbeats 800000 in
set_option maxRecDepth 20000 in
theorem of_long (w : World) (x : Option Addr) (m cx : Nat) (hF : FTab w) (hl : 1048576 < m) :
    Calls Tryd.prog 35 #[.slice x m cx] w fun e w' => e = .returned (.tuple #[.slice none 0 0, .int .i64 2]) ∧ Below w.heap.size w w' := by
  have hnew := new_any w hF
  clear hF
  go_enter Tryd.func35, Tryd.ntmps35
  go_wp2_with fail
  refine hnew.mono ?_
  rintro e w1 ⟨rfl, hD1, hb1⟩
  have hw := write_long w1 w.heap.size [] hD1 x m cx (by simpa using hl)
  clear hnew
  go_wp2_with fail
  refine hw.mono ?_
  rintro e w2 ⟨rfl, rfl⟩
  clear hw
  go_wp2
  go_ret2
  exact ⟨rfl, hb1⟩

end Go.Proofs.YtkpaldkmikjpiaaDoor
