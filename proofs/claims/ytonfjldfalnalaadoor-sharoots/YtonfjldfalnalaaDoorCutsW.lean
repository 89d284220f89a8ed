/-
  Appending to a slice of the call's own; the walk of ShaCuts.
-/
import Derived.Test.YtonfjldfalnalaaDoorTabs
namespace Go.Proofs.YtonfjldfalnalaaDoor
open Go.ChangeShapes Go.WideShapes Go.ChangeAt Go.RowKit

/-- An append to a slice of the call's own, of whatever bytes. -/
theorem append_own_any (w : World) (base : Nat) (v : Value) (xs : List UInt8) (ho : w.ownsRow base 5 1 v xs.length (xs.map cellOf)) (x : Option Addr) (cx : Nat) (cs : List UInt8) (hx : Sees w x cx cs)
    (hb : xs.length + cs.length ≤ 140737488355328) (hbase : base ≤ w.heap.size) :
    ∃ v' w', (Builtin.append_ #[22, 22] 22 #[v, .slice x cs.length cx]).run Tryd.prog w = .ok v' w' ∧ w'.ownsRow base 5 1 v' (xs ++ cs).length ((xs ++ cs).map cellOf) ∧
      (∀ B a0, Below B a0 w → B ≤ base → Below B a0 w') := by
  obtain ⟨i5, hi, hz0, hz1, hz2⟩ := info_parts Tryd.info5
  by_cases h0 : cs = []
  · subst h0
    obtain ⟨d, cd, rfl, hs⟩ := Sees.of_own ho
    have := run_append_nothing (P := Tryd.prog) w 22 22 22 5 i5 Tryd.underlying22 hi d xs.length cd hs.fits (.slice x 0 cx) (by rw [hz1]; exact hx.src)
    exact ⟨_, w, this, by simpa using ho, fun _ _ h _ => h⟩
  · obtain ⟨ad, rfl⟩ : ∃ ad, x = some ad := by obtain ⟨b, off, h, _⟩ := hx.at' h0; exact ⟨_, h⟩
    obtain ⟨v', w', hrun, ho', hg, _⟩ := run_append_own (P := Tryd.prog) w base 22 22 5 i5 (.int .u8 0) 1 1 Tryd.underlying22 hi hz0 hz1 hz2 rfl (by omega) v xs.length (xs.map cellOf) ho ad cs.length cx (cs.map cellOf) (by simp) (hx.news ad rfl) (bytes_oneCell cs) (by unfold maxLen; omega) (by omega) hbase
    exact ⟨v', w', hrun, by simpa using ho', fun B a0 h hB => h.grown hg (Nat.le_trans hB hbase) (fun k hk => Nat.le_trans hB (ho.lt _ hk).1)⟩

theorem own_empty (w : World) : (w.alloc (.cells #[] 5)).ownsRow w.heap.size 5 1 (.slice (some ⟨w.heap.size, 0, none⟩) 0 0) ([] : List UInt8).length (([] : List UInt8).map cellOf) :=
  World.ownsRow_made w #[] 0 (Nat.le_refl _) (by simp) (by simp)

set_option maxHeartbeats 1600000 in
theorem cuts_walk (a : Option Addr) (ca : Nat) (bs : List UInt8) (b : Option Addr) (cb : Nat) (cs : List UInt8) (w : World) (hTab : FTab w ∧ KTab w) (ha : Sees w a ca bs) (_ : ca ≤ 140737488351232) (hb : Sees w b cb cs) (_ : cb ≤ 140737488351232) :
    Calls Tryd.prog 7 #[.slice a bs.length ca, .slice b cs.length cb] w fun e w' => e = .returned (.bool true) ∧ Below w.heap.size w w' := by
  have HF : Hid (FTab w) := hTab.1
  have HK : Hid (KTab w) := hTab.2
  have haw := awake_any w hTab.1 hTab.2
  have hnew := new_any w hTab.1
  have HA : Hid (Sees w a ca bs) := ha
  have HB : Hid (Sees w b cb cs) := hb
  have l1 : bs.length ≤ 9223372036854775807 := by have := ha.fits; have := ha.room; unfold maxLen at this; omega
  have l2 : cs.length ≤ 9223372036854775807 := by have := hb.fits; have := hb.room; unfold maxLen at this; omega
  clear hTab ha hb
  by_cases hl : 100000 < bs.length ∨ 100000 < cs.length
  · by_cases h1 : 100000 < bs.length
    · clear hl
      go_enter Tryd.func7, Tryd.ntmps7
      go_wp2_with fail
      refine haw.mono ?_
      rintro e w' ⟨rfl, hbl⟩
      go_wp2
      go_ret
      exact ⟨rfl, hbl⟩
    · have h2 : 100000 < cs.length := by omega
      have d1 : decide ((100000 : Int) < (bs.length : Int)) = false := by simp; omega
      clear hl
      go_enter Tryd.func7, Tryd.ntmps7
      go_wp2_with fail
      refine haw.mono ?_
      rintro e w' ⟨rfl, hbl⟩
      go_wp2
      go_ret
      exact ⟨rfl, hbl⟩
  · have d1 : decide ((100000 : Int) < (bs.length : Int)) = false := by simp; omega
    have d2 : decide ((100000 : Int) < (cs.length : Int)) = false := by simp; omega
    have s1 : bs.length ≤ 100000 := by omega
    have s2 : cs.length ≤ 100000 := by omega
    clear hl haw
    go_enter Tryd.func7, Tryd.ntmps7
    go_wp2_with fail
    refine hnew.mono ?_
    rintro e w1 ⟨rfl, hD1, hb1⟩
    obtain ⟨n1, t1, v1, ho1⟩ := hD1.obj'
    have hw1 := write_any w1 w.heap.size [] hD1 a ca bs (HA.out.below hb1) (HK.out.below hb1) (by simp; omega)
    rw [List.nil_append] at hw1
    clear hnew
    go_wp2_with fail
    refine hw1.mono ?_
    rintro e w2 ⟨rfl, hD2, hbt2⟩
    have hb2 := hbt2.below hb1 (Nat.le_refl _)
    have hK2 := HK.out.below hb2
    obtain ⟨n2, t2, v2, ho2⟩ := hD2.obj'
    have hw2 := write_any w2 w.heap.size bs hD2 b cb cs (HB.out.below hb2) hK2 (by omega)
    clear hw1 ho1 hD1 hbt2
    go_wp2_with fail
    refine hw2.mono ?_
    rintro e w3 ⟨rfl, hD3, hbt3⟩
    have hb3 := hbt3.below hb2 (Nat.le_refl _)
    have hK3 := HK.out.below hb3
    have hsum := sum_yes w3 w.heap.size (bs ++ cs) hD3 hK3
    clear hw2 ho2 hD2 hbt3 hK2
    go_wp2_with fail
    refine hsum.mono ?_
    rintro e w4 ⟨d4, c4, r4, hr4, rfl, hs4, hb4⟩
    have hb4w := hb3.trans (hb4.mono hb3.size)
    have hb5w : Below w.heap.size w (w4.alloc (.cells #[] 5)) := hb4w.alloc hb4w.size _
    obtain ⟨v6, w6, hrun6, ho6, hk6⟩ := append_own_any _ w4.heap.size _ [] (own_empty w4) a ca bs (HA.out.below hb5w) (by simp; omega) (by simp)
    rw [List.nil_append] at ho6
    have hb6w := hk6 _ _ hb5w hb4w.size
    have hz6 : w4.heap.size ≤ w6.heap.size := (hk6 w4.heap.size w4 ((Below.refl _ _).alloc (Nat.le_refl _) _) (Nat.le_refl _)).size
    obtain ⟨v7, w7, hrun7, ho7, hk7⟩ := append_own_any w6 w4.heap.size v6 bs ho6 b cb cs (HB.out.below hb6w) (by omega) hz6
    have hb7w := hk7 _ _ hb6w hb4w.size
    have hb74 : Below w4.heap.size w4 w7 := hk7 _ _ (hk6 _ _ ((Below.refl _ _).alloc (Nat.le_refl _) _) (Nat.le_refl _)) (Nat.le_refl _)
    have hs7 := hs4.below hb74
    obtain ⟨d7, c7, rfl, hse7⟩ := Sees.of_own ho7
    have R6 : Hid ((Builtin.append_ #[22, 22] 22 #[.slice (some ⟨w4.heap.size, 0, none⟩) 0 0, .slice a bs.length ca]).run Tryd.prog (w4.alloc (.cells #[] 5)) = .ok v6 w6) := hrun6
    have R7 : Hid ((Builtin.append_ #[22, 22] 22 #[v6, .slice b cs.length cb]).run Tryd.prog w6 = .ok (.slice d7 (bs ++ cs).length c7) w7) := hrun7
    have hof := of_ok w7 d7 c7 (bs ++ cs) hse7 (HF.out.below hb7w) (HK.out.below hb7w) (by simp; omega)
    obtain ⟨V7, hV7⟩ : ∃ V, V = Value.slice d7 (bs ++ cs).length c7 := ⟨_, rfl⟩
    rw [← hV7] at hof R7
    clear hsum hrun6 hrun7 ho6 ho7 hk6 hk7 hV7 hse7
    go_wp2_with (at_builtin; first | refine wpList_append_run rfl _ _ 22 rfl _ _ _ rfl rfl R6.out ?_ | refine wpList_append_run rfl _ _ 22 rfl _ _ _ rfl rfl R7.out ?_)
    refine hof.mono ?_
    rintro e w8 ⟨d8, c8, r8, hr8, rfl, hs8, hb8⟩
    have hb8w := hb7w.trans (hb8.mono hb7w.size)
    have hs48 := hs7.below hb8
    have hrr : r8 = r4 := by rw [hr8.out, hr4.out]
    subst hrr
    have hrl : r8.length = 32 := by rw [hr8.out]; exact shaL_length _
    have e1 := hs48.convert (P := Tryd.prog) 22 5 9 Tryd.underlying22 Tryd.underlying5 Tryd.underlying9
    have e2 := hs8.convert (P := Tryd.prog) 22 5 9 Tryd.underlying22 Tryd.underlying5 Tryd.underlying9
    have haw := awake_any w8 (HF.out.below hb8w) (HK.out.below hb8w)
    rw [hrl] at e1 e2
    clear hof R6 R7
    rw [hrl]
    go_wp2_with fail
    refine haw.mono ?_
    rintro e w9 ⟨rfl, hb9⟩
    go_wp2
    go_ret
    exact ⟨rfl, hb8w.trans (hb9.mono hb8w.size)⟩
end Go.Proofs.YtonfjldfalnalaaDoor
