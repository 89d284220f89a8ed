/-
  Appending to a slice that has no room; the contracts of slices.Clone and sha.fill.
-/
import Derived.Test.YtkpaldkmikjpiaaDoorTake
import Derived.Test.YtkpaldkmikjpiaaDoorPut
import Derived.Deep.Upon
import Derived.Lib.SliceRun
namespace Go.Proofs.YtkpaldkmikjpiaaDoor
open Go.ChangeShapes Go.WideShapes Go.ChangeAt Go.RowKit

theorem Sees.src {w : World} {x : Option Addr} {cx : Nat} {cs : List UInt8} (h : Sees w x cx cs) : Src Tryd.prog 1 22 (.slice x cs.length cx) cs.length (cs.map cellOf) w := by
  cases x with
  | none =>
    have h0 := h.bare rfl
    have h1 := h.fits
    have : cs = [] := List.eq_nil_of_length_eq_zero (by omega)
    subst this
    exact Src.ofNil w Tryd.underlying22 cx
  | some ad => exact Src.ofSlice w Tryd.underlying22 ad _ cx _ (by simp) (h.news ad rfl) (bytes_oneCell cs)

/-- An append to a slice without room: what is there stays as it was. -/
theorem append_full (w : World) (a x : Option Addr) (cx : Nat) (bs cs : List UInt8) (ha : Sees w a bs.length bs) (hx : Sees w x cx cs) (hb : bs.length + cs.length ≤ 140737488355328) :
    ∃ d cd w', (Builtin.append_ #[22, 22] 22 #[.slice a bs.length bs.length, .slice x cs.length cx]).run Tryd.prog w = .ok (.slice d (bs.length + cs.length) cd) w' ∧ Sees w' d cd (bs ++ cs) ∧ Below w.heap.size w w' ∧
      (0 < cs.length → w'.ownsRow w.heap.size 5 1 (.slice d (bs.length + cs.length) cd) (bs.length + cs.length) ((bs ++ cs).map cellOf)) := by
  obtain ⟨i5, hi, hz0, hz1, hz2⟩ := info_parts Tryd.info5
  by_cases h0 : cs = []
  · subst h0
    have hs := hx.src
    have := run_append_nothing (P := Tryd.prog) w 22 22 22 5 i5 Tryd.underlying22 hi a bs.length bs.length (Nat.le_refl _) (.slice x 0 cx) (by rw [hz1]; exact hs)
    exact ⟨a, bs.length, w, this, by simpa using ha, Below.refl _ _, fun h => by simp at h⟩
  · have hc : 0 < cs.length := List.length_pos_iff.2 h0
    obtain ⟨ad, rfl⟩ : ∃ ad, x = some ad := by
      obtain ⟨b, off, h, _⟩ := hx.at' h0
      exact ⟨_, h⟩
    have key : ∃ v w', (Builtin.append_ #[22, 22] 22 #[.slice a bs.length bs.length, .slice (some ad) cs.length cx]).run Tryd.prog w = .ok v w' ∧
        w'.ownsRow w.heap.size 5 1 v (bs.length + cs.length) ((bs ++ cs).map cellOf) ∧ w.grownBy w' none := by
      cases a with
      | none =>
        have h1 := ha.bare rfl
        have : bs = [] := List.eq_nil_of_length_eq_zero h1
        subst this
        obtain ⟨v, w', hrun, ho, hg, _⟩ := run_append_own (P := Tryd.prog) w w.heap.size 22 22 5 i5 (.int .u8 0) 1 1 Tryd.underlying22 hi hz0 hz1 hz2 rfl (by omega) (.slice none 0 0) 0 [] (World.ownsRow_nil _ _ _ _) ad cs.length cx (cs.map cellOf) (by simp) (hx.news ad rfl) (bytes_oneCell cs) (by unfold maxLen; simp at hb; omega) (by simpa using hb) (Nat.le_refl _)
        exact ⟨v, w', hrun, by simpa using ho, hg⟩
      | some b =>
        obtain ⟨v, w', hrun, ho, hg⟩ := run_append_arg_grows (P := Tryd.prog) w 22 22 5 i5 (.int .u8 0) 1 1 Tryd.underlying22 hi hz0 hz1 hz2 rfl (by omega) b bs.length bs.length (bs.map cellOf) (by simp) (ha.news b rfl) ad cs.length cx (cs.map cellOf) (by simp) (hx.news ad rfl) (by omega) (by unfold maxLen; omega) (by omega)
        exact ⟨v, w', hrun, by simpa using ho, hg⟩
    obtain ⟨v, w', hrun, ho, hg⟩ := key
    obtain ⟨d, cd, rfl, hs⟩ := Sees.of_own ho
    rw [List.length_append] at hrun ho
    exact ⟨d, cd, w', hrun, hs, (Below.refl _ _).grown hg (Nat.le_refl _) (by intro k h; cases h), fun _ => ho⟩

set_option maxHeartbeats 400000 in
set_option maxRecDepth 20000 in
theorem clone_any (w : World) (x : Option Addr) (cx : Nat) (cs : List UInt8) (hx : Sees w x cx cs) (hb : cs.length ≤ 140737488355328) :
    Calls Tryd.prog 57 #[.slice x cs.length cx] w fun e w' => ∃ d cd, e = .returned (.slice d cs.length cd) ∧ Sees w' d cd cs ∧ Below w.heap.size w w' := by
  cases x with
  | none =>
    have h0 := hx.bare rfl
    have h1 := hx.fits
    have : cs = [] := List.eq_nil_of_length_eq_zero (by omega)
    subst this
    subst h0
    have hq := Lib.run_eql_slice_nil (P := Tryd.prog) w 22 5 none 0 0 0 0 Tryd.underlying22
    go_enter Tryd.func57, Tryd.ntmps57
    go_wp2
    go_ret
    exact ⟨none, 0, rfl, Sees.nil' w, Below.refl _ _⟩
  | some ad =>
    have hb0 : Below w.heap.size w (w.alloc (.cells #[] 5)) := (Below.refl _ _).alloc (Nat.le_refl _) _
    have hx1 := hx.below hb0
    obtain ⟨d, cd, w', hrun, hs, hbl, _⟩ := append_full (w.alloc (.cells #[] 5)) (some ⟨w.heap.size, 0, none⟩) (some ad) cx [] cs ⟨by simp, by simp, by simp, fun h => absurd rfl h⟩ hx1 (by simpa using hb)
    have HR : Hid ((Builtin.append_ #[22, 22] 22 #[.slice (some ⟨w.heap.size, 0, none⟩) 0 0, .slice (some ad) cs.length cx]).run Tryd.prog (w.alloc (.cells #[] 5)) = .ok (.slice d cs.length cd) w') := by
      simp only [List.length_nil, Nat.zero_add] at hrun; exact hrun
    have hq := Lib.run_eql_slice_nil (P := Tryd.prog) w 22 5 (some ad) cs.length cx 0 0 Tryd.underlying22
    clear hrun
    go_enter Tryd.func57, Tryd.ntmps57
    go_wp2_with (at_builtin; refine wpList_append_run rfl _ _ 22 rfl _ _ _ rfl rfl HR.out ?_)
    go_ret
    exact ⟨d, cd, rfl, by simpa using hs, hb0.trans (hbl.mono (by simp))⟩

set_option maxHeartbeats 1600000 in
set_option maxRecDepth 20000 in
theorem fill_any (w : World) (a : Option Addr) (bs : List UInt8) (size : Nat) (ha : Sees w a bs.length bs) (hb : bs.length ≤ 1048576) (hn : size ≤ 1048576) :
    Calls Tryd.prog 58 #[.slice a bs.length bs.length, .int .i64 size] w fun e w' => ∃ d cd r, Hid (r = pad bs size) ∧ e = .returned (.slice d r.length cd) ∧ Sees w' d cd r ∧ Below w.heap.size w w' := by
  obtain ⟨i5, hi, hz0, hz1, hz2⟩ := info_parts Tryd.info5
  have hb0 : Below w.heap.size w (w.alloc (.cells #[.int .u8 128] 5)) := (Below.refl _ _).alloc (Nat.le_refl _) _
  have hsx : Sees (w.alloc (.cells #[.int .u8 128] 5)) (some ⟨w.heap.size, 0, none⟩) 1 [0x80] :=
    ⟨by simp, by unfold maxLen; omega, by simp, fun _ => ⟨w.heap.size, 0, rfl, fun i x hx => by
      rw [cell_of_row _ _ (0 + i) _ _ _ (heap_alloc_new w _)]
      have : i = 0 := by have := (List.getElem?_eq_some_iff.1 hx).1; simpa using this
      subst this
      simp at hx
      subst hx
      rfl⟩⟩
  obtain ⟨d, cd, w1, hrun, _, hbl, hown⟩ := append_full _ a _ 1 bs [0x80] (ha.below hb0) hsx (by simp; omega)
  have HR : Hid ((Builtin.append_ #[22, 22] 22 #[.slice a bs.length bs.length, .slice (some ⟨w.heap.size, 0, none⟩) 1 1]).run Tryd.prog (w.alloc (.cells #[.int .u8 128] 5)) = .ok (.slice d (bs.length + 1) cd) w1) := hrun
  have hb1 : Below w.heap.size w w1 := hb0.trans (hbl.mono (by simp))
  have ho1 := hown (by simp)
  clear hrun hown hbl hsx hb0
  go_enter Tryd.func58, Tryd.ntmps58
  go_wp2_with (at_builtin; refine wpList_append_run rfl _ _ 22 rfl _ _ _ rfl rfl HR.out ?_)
  go_loopw [5] (fun v wr => ∃ (j : Nat) (d : Option Addr) (cd : Nat), j ≤ zs bs.length ∧ v = .slice d (bs.length + 1 + j) cd ∧ wr.ownsRow w.heap.size 5 1 (.slice d (bs.length + 1 + j) cd) (bs.length + 1 + j) ((bs ++ [0x80] ++ List.replicate j 0).map cellOf) ∧ Below w.heap.size w wr)
    (fun v _ => match v with | .slice _ n _ => bs.length + 1 + zs bs.length - n | _ => 0)
  case atStart => exact ⟨0, d, cd, Nat.zero_le _, rfl, by simpa using ho1.mono (by simp), hb1⟩
  case round =>
    obtain ⟨j, d, cd, hj, rfl, ho, hbl⟩ := hrel
    clear ho1 hb1 HR
    have hzl := zs_lt bs.length
    by_cases hlt : j < zs bs.length
    · have hm : (((bs.length : Int) + 1 + (j : Int)) % 64 != 56) = true := by
        simp only [bne_iff_ne]; unfold zs at hlt; omega
      have hsz := hbl.size
      obtain ⟨v, w2, hrun, ho2, hg, _⟩ := run_append_own (P := Tryd.prog) (wr.alloc (.cells #[.int .u8 0] 5)) w.heap.size 22 22 5 i5 (.int .u8 0) 1 1 Tryd.underlying22 hi hz0 hz1 hz2 rfl (by omega) _ _ _ (ho.alloc _) ⟨wr.heap.size, 0, none⟩ 1 1 [.int .u8 0] (by simp) (World.news_of_block (heap_alloc_new wr _)) (by simp [Value.oneCell']) (by unfold maxLen; omega) (by omega) (by simp; omega)
      have ho3 : w2.ownsRow w.heap.size 5 1 v (bs.length + 1 + (j + 1)) ((bs ++ [0x80] ++ List.replicate (j + 1) 0).map cellOf) := by
        rw [List.replicate_succ', ← List.append_assoc, List.map_append]; exact ho2
      have hb2 : Below w.heap.size w w2 := (hbl.alloc hsz _).grown hg (by simp; omega) (fun q h => (ho.lt _ h).1)
      obtain ⟨d2, cd2, rfl, _⟩ := Sees.of_own ho3
      have hlen : (bs ++ [0x80] ++ List.replicate (j + 1) (0 : UInt8)).length = bs.length + 1 + (j + 1) := by simp; omega
      rw [hlen] at hrun ho3
      have HA : Hid ((Builtin.append_ #[22, 22] 22 #[.slice d (bs.length + 1 + j) cd, .slice (some ⟨wr.heap.size, 0, none⟩) 1 1]).run Tryd.prog (wr.alloc (.cells #[.int .u8 0] 5)) = .ok (.slice d2 (bs.length + 1 + (j + 1)) cd2) w2) := hrun
      clear hrun ho2 hg hlen
      go_wp2_with (at_builtin; refine wpList_append_run rfl _ _ 22 rfl _ _ _ rfl rfl HA.out ?_)
      go_roundw
      case rel => exact ⟨j + 1, d2, cd2, by omega, rfl, ho3, hb2⟩
      case measure => simp; omega
    · obtain rfl : j = zs bs.length := by omega
      obtain ⟨d2, cd2, hv, hs⟩ := Sees.of_own ho
      obtain ⟨r, hr⟩ : ∃ r, r = bs ++ [0x80] ++ List.replicate (zs bs.length) (0 : UInt8) := ⟨_, rfl⟩
      rw [← hr] at hs hv
      have hrl : bs.length + 1 + zs bs.length = r.length := by rw [hr]; simp; omega
      have Hr : Hid (r = bs ++ [0x80] ++ List.replicate (zs bs.length) (0 : UInt8)) := hr
      have HRL : Hid (bs.length + 1 + zs bs.length = r.length) := hrl
      rw [hv]
      have hm2 : ((r.length : Int) % 64 != 56) = false := by
        simp only [bne_eq_false_iff_eq]; rw [← hrl]; unfold zs; omega
      clear ho hv hr hrl
      go_wp2_with fail
      have hput := putlong_any wr d2 cd2 r (8 * size) hs (by rw [← HRL.out]; omega) (by omega)
      refine (show Calls _ _ _ _ _ from by simpa using hput).mono ?_
      rintro e w' ⟨d3, cd3, r3, HR3, rfl, hs3, hb3⟩
      go_wp2
      go_ret
      exact ⟨d3, cd3, r3, by rw [HR3.out, Hr.out]; exact rfl, rfl, hs3, hbl.trans (hb3.mono hbl.size)⟩
end Go.Proofs.YtkpaldkmikjpiaaDoor
