/-
  The contracts of sha.Of and of 'awake'.
-/
import Derived.Test.YtonfjldfalnalaaDoorSum
import Derived.Lib.SlBytesConst
namespace Go.Proofs.YtonfjldfalnalaaDoor
open Go.ChangeShapes Go.WideShapes Go.ChangeAt Go.RowKit

theorem Dig.obj' {w : World} {b : Nat} {bs : List UInt8} (h : Dig w b bs) : ∃ n s v, ObjAt w b n s v := by obtain ⟨a, ho, _⟩ := h.obj; exact ⟨_, _, _, ho⟩

set_option maxHeartbeats 800000 in
theorem of_ok (w : World) (x : Option Addr) (cx : Nat) (bs : List UInt8) (hx : Sees w x cx bs) (hF : FTab w) (hT : KTab w) (hl : bs.length ≤ 1048576) :
    Calls Tryd.prog 10 #[.slice x bs.length cx] w fun e w' => ∃ d cd r, Hid (r = shaL bs) ∧ e = .returned (.tuple #[.slice d r.length cd, .int .i64 0]) ∧ Sees w' d cd r ∧ Below w.heap.size w w' := by
  have HT : Hid (KTab w) := hT
  have HX : Hid (Sees w x cx bs) := hx
  have hnew := new_any w hF
  clear hT hF hx
  go_enter Tryd.func10, Tryd.ntmps10
  go_wp2_with fail
  refine hnew.mono ?_
  rintro e w1 ⟨rfl, hD1, hb1⟩
  have hw := write_any w1 w.heap.size [] hD1 x cx bs (HX.out.below hb1) (HT.out.below hb1) (by simpa using hl)
  rw [List.nil_append] at hw
  clear hnew
  go_wp2_with fail
  refine hw.mono ?_
  rintro e w2 ⟨rfl, hD2, hbt2⟩
  obtain ⟨n, s, v, ho1⟩ := hD1.obj'
  have hb2 : Below w.heap.size w w2 := hbt2.below hb1 (Nat.le_refl _)
  have hsum := sum_yes w2 w.heap.size bs hD2 ((HT.out.below hb1).but ho1 hbt2)
  clear hw ho1 hD1
  go_wp2_with fail
  refine hsum.mono ?_
  rintro e w3 ⟨d, cd, r, hr, rfl, hs3, hb3⟩
  clear hsum
  go_wp2
  go_ret2
  exact ⟨d, cd, r, hr, rfl, hs3, hb2.trans (hb3.mono hb2.size)⟩

set_option maxHeartbeats 800000 in
theorem of_long (w : World) (x : Option Addr) (m cx : Nat) (hF : FTab w) (hl : 1048576 < m) :
    Calls Tryd.prog 10 #[.slice x m cx] w fun e w' => e = .returned (.tuple #[.slice none 0 0, .int .i64 2]) ∧ Below w.heap.size w w' := by
  have hnew := new_any w hF
  clear hF
  go_enter Tryd.func10, Tryd.ntmps10
  go_wp2_with fail
  refine hnew.mono ?_
  rintro e w1 ⟨rfl, hD1, hb1⟩
  have hw := write_long w1 w.heap.size [] hD1 x m cx (by simpa using hl)
  clear hnew
  go_wp2_with fail
  refine hw.mono ?_
  rintro e w2 ⟨rfl, rfl⟩
  clear hw
  go_wp2
  go_ret2
  exact ⟨rfl, hb1⟩

set_option maxHeartbeats 1600000 in
theorem awake_any (w : World) (hF : FTab w) (hT : KTab w) : Calls Tryd.prog 9 #[] w fun e w' => e = .returned (.bool true) ∧ Below w.heap.size w w' := by
  have hb0 : Below w.heap.size w (w.alloc (.cells #[.int .u8 97, .int .u8 98, .int .u8 99] 5 (3, 4))) := (Below.refl _ _).alloc (Nat.le_refl _) _
  have hsx : Sees (w.alloc (.cells #[.int .u8 97, .int .u8 98, .int .u8 99] 5 (3, 4))) (some ⟨w.heap.size, 0, none⟩) 3 [97, 98, 99] :=
    ⟨by simp, by unfold maxLen; omega, by simp, fun _ => ⟨w.heap.size, 0, rfl, fun i x hx => by
      rw [cell_of_row _ _ (0 + i) _ _ _ (heap_alloc_new w _), Nat.zero_add]
      match i, hx with
      | 0, hx => simp at hx; subst hx; rfl
      | 1, hx => simp at hx; subst hx; rfl
      | 2, hx => simp at hx; subst hx; rfl
      | k + 3, hx => simp at hx⟩⟩
  have hcv := Lib.run_convert_bytes_const (P := Tryd.prog) w 22 5 #[.int .u8 97, .int .u8 98, .int .u8 99] 3 3 Tryd.underlying22 Tryd.underlying5
  simp only [List.size_toArray, List.length_cons, List.length_nil, Nat.zero_add, Nat.reduceAdd] at hcv
  have hof := of_ok _ _ 3 [97, 98, 99] hsx (hF.below hb0) (hT.below hb0) (by simp)
  clear hsx hF hT
  go_enter Tryd.func9, Tryd.ntmps9
  go_wp2_with fail
  refine hof.mono ?_
  rintro e w1 ⟨d, cd, r, hr, rfl, hs1, hb1⟩
  have hr2 : r = [0xba, 0x78, 0x16, 0xbf, 0x8f, 0x01, 0xcf, 0xea, 0x41, 0x41, 0x40, 0xde, 0x5d, 0xae, 0x22, 0x23, 0xb0, 0x03, 0x61, 0xa3, 0x96, 0x17, 0x7a, 0x9c, 0xb4, 0x10, 0xff, 0x61, 0xf2, 0x00, 0x15, 0xad] := by rw [hr.out, sha_abc]
  have hrl : r.length = 32 := by rw [hr2]; rfl
  obtain ⟨rb, ro, rfl, hc⟩ := hs1.at' (by rw [hr2]; simp)
  have c0 : w1.cell? ⟨rb, ro, none⟩ = some (.int .u8 186) := hc 0 0xba (by rw [hr2]; rfl)
  have c1 : w1.cell? ⟨rb, ro + 1, none⟩ = some (.int .u8 120) := hc 1 0x78 (by rw [hr2]; rfl)
  have c31 : w1.cell? ⟨rb, ro + 31, none⟩ = some (.int .u8 173) := hc 31 0xad (by rw [hr2]; rfl)
  clear hof hr2 hc
  go_wp2
  go_ret
  exact ⟨rfl, hb0.trans (hb1.mono (by simp))⟩
end Go.Proofs.YtonfjldfalnalaaDoor
