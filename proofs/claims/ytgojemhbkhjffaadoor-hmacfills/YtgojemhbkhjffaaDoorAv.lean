/-
  A digest whose left bytes lie apart from a slice of the caller's own; what Write and append do to both.
-/
import Derived.Test.YtgojemhbkhjffaaDoorWriteC
import Derived.Test.YtgojemhbkhjffaaDoorCutsW
import Derived.Maps.AppendAt
namespace Go.Proofs.YtgojemhbkhjffaaDoor
open Go.ChangeShapes Go.WideShapes Go.ChangeAt Go.RowKit

set_option maxHeartbeats 1600000 in
theorem write2_zero {R : List Value} {ty : TypeId} (w : World) (b : Nat) (bs : List UInt8) (h : Dig R ty w b bs) (x : Option Addr) (cx : Nat) (hx : Sees w x cx []) :
    Calls Tryd.prog 25 #[.pointer (some ⟨b, 0, none⟩), .slice x 0 cx] w fun e w' => e = .returned (.int .i64 0) ∧ Dig R ty w' b bs ∧ But b w w' ∧ ∃ a, ObjAt R ty w b bs.length (stOf bs) (.slice a (leftOf bs).length (leftOf bs).length) ∧ ObjAt R ty w' b bs.length (stOf bs) (.slice a (leftOf bs).length (leftOf bs).length) := by
  obtain ⟨a, ho, hs⟩ := h.obj
  have hlen := h.len
  have h1 := ho.made
  have h2 := ho.size
  have h10 := ho.left
  have hrc := hx.room
  unfold maxLen at hrc
  obtain ⟨L, hL⟩ : ∃ L, L = leftOf bs := ⟨_, rfl⟩
  have hLl : L.length < 64 := by rw [hL, leftOf_length]; omega
  rw [← hL] at ho hs h10
  have HO : Hid (ObjAt R ty w b bs.length (stOf bs) (.slice a L.length L.length)) := ho
  have HL : Hid (L = leftOf bs) := hL
  have hd : decide ((1048576 : Int) - (bs.length : Int) < (0 : Int)) = false := by simp; omega
  have hmin : (0 : Int) < (64 : Int) - (L.length : Int) := by omega
  have hrun : (Builtin.append_ #[22, 22] 22 #[.slice a L.length L.length, .slice x 0 cx]).run Tryd.prog w.drew = .ok (.slice a L.length L.length) w.drew := by
    obtain ⟨i5, hi, hz0, hz1, hz2⟩ := info_parts Tryd.info5
    exact run_append_nothing (P := Tryd.prog) w.drew 22 22 22 5 i5 Tryd.underlying22 hi a L.length L.length (Nat.le_refl _) (.slice x 0 cx) (by rw [hz1]; exact (hx.drewN 1).src)
  have HR : Hid ((Builtin.append_ #[22, 22] 22 #[.slice a L.length L.length, .slice x 0 cx]).run Tryd.prog w.drew = .ok (.slice a L.length L.length) w.drew) := hrun
  have c1 := ho.size
  have f10 := ho.frozen 10
  have f1 := ho.frozen 1
  have ht : ((L.length : Int) == 64) = false := by simp; omega
  have hfl := hs.room
  unfold maxLen at hfl
  have hbare := hx.bare
  clear ho hL h hrun
  have hO : ObjAt R ty ((w.drew.setCell ⟨b, 10, none⟩ (.slice a L.length L.length)).setCell ⟨b, 1, none⟩ (.int .i64 (bs.length : Int))) b bs.length (stOf bs) (.slice a L.length L.length) :=
    ((HO.out.drewN 1).setLeft (.slice a L.length L.length)).setSize bs.length
  have hB : But b w ((w.drew.setCell ⟨b, 10, none⟩ (.slice a L.length L.length)).setCell ⟨b, 1, none⟩ (.int .i64 (bs.length : Int))) :=
    (((But.refl b w).drewN 1).setCell 10 _).setCell 1 _
  have hS := hs.but HO.out (by intro x; simp) hB
  have hD : Dig R ty ((w.drew.setCell ⟨b, 10, none⟩ (.slice a L.length L.length)).setCell ⟨b, 1, none⟩ (.int .i64 (bs.length : Int))) b bs :=
    ⟨hlen, a, by rw [← HL.out]; exact hO, by rw [← HL.out]; exact hS⟩
  obtain ⟨aa, haa⟩ : ∃ aa, aa = a := ⟨_, rfl⟩
  have hOO : ∃ a, ObjAt R ty w b bs.length (stOf bs) (.slice a (leftOf bs).length (leftOf bs).length) ∧ ObjAt R ty ((w.drew.setCell ⟨b, 10, none⟩ (.slice aa L.length L.length)).setCell ⟨b, 1, none⟩ (.int .i64 (bs.length : Int))) b bs.length (stOf bs) (.slice a (leftOf bs).length (leftOf bs).length) := ⟨a, by rw [← HL.out]; exact HO.out, by rw [← HL.out]; rw [haa]; exact hO⟩
  rw [haa] at hOO
  clear hO hS hs haa
  cases x with
  | none =>
    obtain rfl := hbare rfl
    clear hx
    go_enter Tryd.func25, Tryd.ntmps25
    go_wp2_with fail
    refine (stands_yes w b h1).mono ?_
    rintro e w0 ⟨rfl, hw0⟩
    rw [hw0]
    clear hw0 w0
    go_wp2
    go_region_held3 (fun w' => w'.cell? ⟨b, 10, none⟩ = some (.slice a L.length L.length))
      (first | go_keep)
      (refine step_append_run rfl _ _ 22 rfl _ _ _ rfl rfl HR.out ?_)
    go_wp2
    go_ret
    exact ⟨rfl, hD, hB, hOO⟩
  | some ad =>
    by_cases hq : cx = 0
    · subst hq
      go_enter Tryd.func25, Tryd.ntmps25
      go_wp2_with fail
      refine (stands_yes w b h1).mono ?_
      rintro e w0 ⟨rfl, hw0⟩
      rw [hw0]
      clear hw0 w0
      go_wp2
      go_region_held3 (fun w' => w'.cell? ⟨b, 10, none⟩ = some (.slice a L.length L.length))
        (first | go_keep)
        (refine step_append_run rfl _ _ 22 rfl _ _ _ rfl rfl HR.out ?_)
      go_wp2
      go_ret
      exact ⟨rfl, hD, hB, hOO⟩
    · have gq : (0 : Int) ≤ (cx : Int) := Int.natCast_nonneg _
      go_enter Tryd.func25, Tryd.ntmps25
      go_wp2_with fail
      refine (stands_yes w b h1).mono ?_
      rintro e w0 ⟨rfl, hw0⟩
      rw [hw0]
      clear hw0 w0
      go_wp2
      go_region_held3 (fun w' => w'.cell? ⟨b, 10, none⟩ = some (.slice a L.length L.length))
        (first | go_keep)
        (refine step_append_run rfl _ _ 22 rfl _ _ _ rfl rfl HR.out ?_)
      go_wp2
      go_ret
      exact ⟨rfl, hD, hB, hOO⟩


/-- The digest at block b is one of bs, and what is left lies apart from v. -/
def Av (R : List Value) (ty : TypeId) (w : World) (b : Nat) (bs : List UInt8) (v : Value) : Prop :=
  ∃ a, ObjAt R ty w b bs.length (stOf bs) (.slice a (leftOf bs).length (leftOf bs).length) ∧ Sees w a (leftOf bs).length (leftOf bs) ∧ ∀ b' off, a = some ⟨b', off, none⟩ → leftOf bs ≠ [] → v.ownBlock ≠ some b'

theorem Av.dig {R : List Value} {ty : TypeId} {w : World} {b : Nat} {bs : List UInt8} {v : Value} (h : Av R ty w b bs v) (hl : bs.length ≤ 1048576) : Dig R ty w b bs := by
  obtain ⟨a, ho, hs, _⟩ := h; exact ⟨hl, a, ho, hs⟩
theorem Av.below {R : List Value} {ty : TypeId} {w w' : World} {b : Nat} {bs : List UInt8} {v : Value} (h : Av R ty w b bs v) (hb : Below w.heap.size w w') : Av R ty w' b bs v := by
  obtain ⟨a, ho, hs, hv⟩ := h; exact ⟨a, ho.below hb, hs.below hb, hv⟩
theorem Av.but {R : List Value} {ty : TypeId} {w w' : World} {b c : Nat} {bs cs : List UInt8} {v : Value} (h : Av R ty w b bs v) (hc : Dig R ty w c cs) (hb : But c w w') (hn : b ≠ c) : Av R ty w' b bs v := by
  obtain ⟨a, ho, hs, hv⟩ := h; exact ⟨a, ho.but hb hn, hc.sees hb hs, hv⟩

theorem own_keep {w w' : World} {B n : Nat} {v : Value} {xs : List Value} (h : w.ownsRow B 5 1 v n xs) (hk : ∀ g, v.ownBlock = some g → g < w.heap.size → w'.heap[g]? = w.heap[g]?) : w'.ownsRow B 5 1 v n xs := by
  refine ⟨h.1, ?_⟩
  rcases h.2 with h0 | ⟨g, cap, cur, rfl, hlow, hg, h4, h5, h6, h7⟩
  · exact .inl h0
  · exact .inr ⟨g, cap, cur, rfl, hlow, by rw [hk g rfl (Array.getElem?_eq_some_iff.1 hg).1]; exact hg, h4, h5, h6, h7⟩
theorem own_below {w w' : World} {B n : Nat} {v : Value} {xs : List Value} (h : w.ownsRow B 5 1 v n xs) (hb : Below w.heap.size w w') : w'.ownsRow B 5 1 v n xs := own_keep h fun g _ hl => hb.block g hl
theorem own_but {w w' : World} {B n E : Nat} {v : Value} {xs : List Value} (h : w.ownsRow B 5 1 v n xs) (hb : But E w w') (hn : v.ownBlock ≠ some E) : w'.ownsRow B 5 1 v n xs :=
  own_keep h fun g hg hl => hb.block g hl (by rintro rfl; exact hn hg)

theorem ObjAt.same {R : List Value} {ty : TypeId} {w : World} {b n m k l : Nat} {s t : S8} {a c : Option Addr} (h1 : ObjAt R ty w b n s (.slice a k k)) (h2 : ObjAt R ty w b m t (.slice c l l)) : a = c := by
  have h3 := h1.left
  rw [h2.left] at h3
  simp only [Option.some.injEq, Value.slice.injEq] at h3
  exact h3.1.symm

/-- Write keeps what is left apart from v. -/
theorem write_av {R : List Value} {ty : TypeId} (w : World) (b B : Nat) (bs : List UInt8) (v : Value) (n : Nat) (xs : List Value) (ho : w.ownsRow B 5 1 v n xs) (hav : Av R ty w b bs v) (hl : bs.length ≤ 1048576) (x : Option Addr) (cx : Nat) (cs : List UInt8) (hx : Sees w x cx cs) (hT : KTab w) (hfit : bs.length + cs.length ≤ 1048576) :
    Calls Tryd.prog 25 #[.pointer (some ⟨b, 0, none⟩), .slice x cs.length cx] w fun e w' => e = .returned (.int .i64 0) ∧ Av R ty w' b (bs ++ cs) v ∧ But b w w' := by
  by_cases h0 : cs = []
  · subst h0
    rw [List.append_nil]
    refine (write2_zero w b bs (hav.dig hl) x cx hx).mono ?_
    rintro e w' ⟨rfl, hD, hB, a, h1, h2⟩
    obtain ⟨a', ho', hs', hv'⟩ := hav
    obtain rfl := ho'.same h1
    obtain ⟨a2, h3, hs2⟩ := hD.obj
    obtain rfl := h3.same h2
    exact ⟨rfl, ⟨a2, h3, hs2, hv'⟩, hB⟩
  · refine (write2_any w b bs (hav.dig hl) x cx cs hx hT hfit h0).mono ?_
    rintro e w' ⟨rfl, hD, hB, a, h1, h2⟩
    obtain ⟨a2, h3, hs2⟩ := hD.obj
    obtain rfl := h3.same h1
    refine ⟨rfl, ⟨a2, h3, hs2, fun b' off ha hne hv => ?_⟩, hB⟩
    have hlo := h2 b' off ha hne
    have := (ho.lt _ hv).2
    omega

theorem Sees.grown {w w' : World} {row : Option Nat} {a : Option Addr} {cap : Nat} {l : List UInt8} (h : Sees w a cap l) (hg : w.grownBy w' row) (hav : ∀ b' off, a = some ⟨b', off, none⟩ → l ≠ [] → row ≠ some b') : Sees w' a cap l :=
  ⟨h.fits, h.room, h.bare, fun hne => by
    obtain ⟨b, off, ha, hc⟩ := h.at' hne
    refine ⟨b, off, ha, fun i x hx => ?_⟩
    have h1 := hc i x hx
    rw [hg.cell_far _ (World.block_lt_of_cell? w _ h1) (Ne.symm (hav b off ha hne)), h1]⟩

/-- An append to v. -/
theorem append_av {R : List Value} {ty : TypeId} (w : World) (b B : Nat) (hbB : b < B) (v : Value) (xs bs : List UInt8) (ho : w.ownsRow B 5 1 v xs.length (xs.map cellOf)) (hav : Av R ty w b bs v) (x : Option Addr) (cx : Nat) (cs : List UInt8) (hx : Sees w x cx cs)
    (hb : xs.length + cs.length ≤ 140737488355328) (hbase : B ≤ w.heap.size) :
    ∃ d cd w', (Builtin.append_ #[22, 22] 22 #[v, .slice x cs.length cx]).run Tryd.prog w = .ok (.slice d (xs ++ cs).length cd) w' ∧ w'.ownsRow B 5 1 (.slice d (xs ++ cs).length cd) (xs ++ cs).length ((xs ++ cs).map cellOf) ∧
      Av R ty w' b bs (.slice d (xs ++ cs).length cd) ∧ (∀ B' a0, Below B' a0 w → B' ≤ B → Below B' a0 w') := by
  obtain ⟨i5, hi, hz0, hz1, hz2⟩ := info_parts Tryd.info5
  by_cases h0 : cs = []
  · subst h0
    obtain ⟨d, cd, rfl, hs⟩ := Sees.of_own ho
    have := run_append_nothing (P := Tryd.prog) w 22 22 22 5 i5 Tryd.underlying22 hi d xs.length cd hs.fits (.slice x 0 cx) (by rw [hz1]; exact hx.src)
    rw [List.append_nil]
    exact ⟨d, cd, w, this, ho, hav, fun _ _ h _ => h⟩
  · obtain ⟨ad, rfl⟩ : ∃ ad, x = some ad := by obtain ⟨b, off, h, _⟩ := hx.at' h0; exact ⟨_, h⟩
    obtain ⟨v', w', hrun, ho', hg, _, h5⟩ := run_append_own_at (P := Tryd.prog) w B 22 22 5 i5 (.int .u8 0) 1 1 Tryd.underlying22 hi hz0 hz1 hz2 rfl (by omega) v xs.length (xs.map cellOf) ho ad cs.length cx (cs.map cellOf) (by simp) (hx.news ad rfl) (bytes_oneCell cs) (by unfold maxLen; omega) (by omega) hbase
    have ho2 : w'.ownsRow B 5 1 v' (xs ++ cs).length ((xs ++ cs).map cellOf) := by simpa using ho'
    obtain ⟨d, cd, rfl, _⟩ := Sees.of_own ho2
    obtain ⟨a, h1, h2, h3⟩ := hav
    have hbl : b < w.heap.size := h1.lt
    have hne : v.ownBlock ≠ some b := fun h => by have := (ho.lt _ h).1; omega
    refine ⟨d, cd, w', hrun, ho2, ⟨a, ?_, h2.grown hg h3, fun b' off ha hl => ?_⟩, fun B' a0 h hB => h.grown hg (Nat.le_trans hB hbase) (fun k hk => Nat.le_trans hB (ho.lt _ hk).1)⟩
    · exact h1.keep (hg.block b hbl (Ne.symm hne))
    · rcases h5 with h5 | h5
      · rw [h5]; exact h3 b' off ha hl
      · rw [h5]
        intro h
        obtain ⟨b2, o2, ha2, hc2⟩ := h2.at' hl
        rw [ha] at ha2
        cases ha2
        obtain ⟨y, hy⟩ : ∃ y, (leftOf bs)[0]? = some y := ⟨(leftOf bs)[0]'(List.length_pos_iff.2 hl), by simp [List.length_pos_iff.2 hl]⟩
        have hlt : b' < w.heap.size := World.block_lt_of_cell? w _ (hc2 0 y hy)
        have := Option.some.inj h
        omega
end Go.Proofs.YtgojemhbkhjffaaDoor
