/-
  The contracts of disclose.tellings and of the closure that it answers.
  The contract of disclose.Known: a range over the closure, left where a key's time lies behind now.
  What follows of keys, times and rounds; the walk of DiscloseOver.
-/
import Derived.Test.YtgncdnejmobjbaaGreatDoorDisA
import Derived.Test.YtgncdnejmobjbaaGreatDoorGround
import Derived.Shelf.Abstract
import Derived.Shelf.RegionOpen
import Derived.OwnWalkIn
import Derived.TacticsInMore
import Derived.LoopNIn
import Derived.LoopIn
import Derived.WalkMore
namespace Go.Proofs.YtgncdnejmobjbaaGreatDoor
open Go.ChangeShapes Go.WideShapes Go.ChangeAt Go.RowKit
set_option maxRecDepth 20000

theorem tellings_ok (w : World) (c : Cf) (sl st : Int) :
    Calls Tryz.prog 63 #[.agg (cfC c), .int .i64 sl, .int .i64 st] w fun e w' => e = .returned (.func (.func 80) #[] #[.pointer (some ⟨w.heap.size, 0, none⟩), .pointer (some ⟨w.heap.size + 1, 0, none⟩), .pointer (some ⟨w.heap.size + 1 + 1, 0, none⟩)]) ∧
      w' = ((w.alloc (.cells (cfC c) 23)).alloc (.cells #[.int .i64 sl] 3)).alloc (.cells #[.int .i64 st] 3) := by
  have hmf : ∀ (fn : Fn) (first cap : Array Value) (w : World), (Instr.makeFunc fn first cap).run Tryz.prog w = .ok (.func fn first cap) w := fun _ _ _ _ => rfl
  go_enter Tryz.func63, Tryz.ntmps63
  go_wp2
  go_ret
  exact ⟨rfl, rfl⟩
end Go.Proofs.YtgncdnejmobjbaaGreatDoor

namespace Go.Proofs.YtgncdnejmobjbaaGreatDoor
open Go.ChangeShapes Go.WideShapes Go.ChangeAt Go.RowKit Go.Shelf
attribute [local go_sem] Oper.semAt_some

set_option maxRecDepth 100000 in
set_option maxHeartbeats 4000000 in
set_option maxRecDepth 20000 in
theorem tell_in (m l bC bS bT : Nat) (c : Cf) (sl st : Int) (hk0 : 0 ≤ c.k) (hk : c.k ≤ 256)
    (I : Int → World → Prop) (kI : ∀ s W W', I s W → Below W.heap.size W W' → I s W')
    (bI : ∀ s W, I s W → CfAt W bC c ∧ W.cell? ⟨bS, 0, none⟩ = some (.int .i64 sl) ∧ W.cell? ⟨bT, 0, none⟩ = some (.int .i64 st))
    (Bk Bx : World → Prop) (kB : ∀ W W', Bk W → Below W.heap.size W W' → Bk W')
    (hY : ∀ (s : Int) (x : Int × Int) W, Bk W → (I s W ∧ s = x.1 - 1 ∧ 1 ≤ x.1 ∧ x.1 ≤ c.k ∧ whB c sl st x.1 = true ∧ x.2 = whN c sl st x.1) → YieldAt Fence.wide (m - 1) Tryz.prog l #[.int .i64 x.1, .int .i64 x.2] W fun e W' => (e = .returned (.bool true) ∧ Bk W' ∧ I x.1 W') ∨ (e = .returned (.bool false) ∧ Bx W'))
    (W : World) (hW : Bk W) (hI : I 0 W) :
    CallsIn Fence.wide m Tryz.prog 80 #[.func (.yield l) #[] #[], .pointer (some ⟨bC, 0, none⟩), .pointer (some ⟨bS, 0, none⟩), .pointer (some ⟨bT, 0, none⟩)] W fun e W' => (∃ v, e = .returned v) ∧ ((∃ s : Int, (0 ≤ s ∧ s ≤ c.k ∧ (s = c.k ∨ whB c sl st (s + 1) = false)) ∧ Bk W' ∧ I s W') ∨ Bx W') := by
  have HY : Hid (∀ (s : Int) (x : Int × Int) W, Bk W → (I s W ∧ s = x.1 - 1 ∧ 1 ≤ x.1 ∧ x.1 ≤ c.k ∧ whB c sl st x.1 = true ∧ x.2 = whN c sl st x.1) → YieldAt Fence.wide (m - 1) Tryz.prog l #[.int .i64 x.1, .int .i64 x.2] W fun e W' => (e = .returned (.bool true) ∧ Bk W' ∧ I x.1 W') ∨ (e = .returned (.bool false) ∧ Bx W')) := hY
  have HI : Hid (∀ s W, I s W → CfAt W bC c ∧ W.cell? ⟨bS, 0, none⟩ = some (.int .i64 sl) ∧ W.cell? ⟨bT, 0, none⟩ = some (.int .i64 st)) := bI
  have HK0 : Hid (0 ≤ c.k) := hk0
  have HK : Hid (c.k ≤ 256) := hk
  clear hY bI hk0 hk
  refine callsIn_of_wp Tryz.func80 rfl trivial ?_ rfl
  simp only [Tryz.ntmps80, List.size_toArray, List.length_cons, List.length_nil, Nat.reduceAdd, Nat.reduceSub, Array.replicate_succ, Array.replicate_zero, List.push_toArray, List.append_toArray, List.nil_append, List.cons_append]
  gi_wp2
  gi_loopw [5] (fun iv wr => ∃ j : Int, iv = .int .i64 j ∧ 1 ≤ j ∧ j ≤ c.k + 1 ∧ Bk wr ∧ I (j - 1) wr) (fun iv _ => (c.k + 1 - intOf iv).toNat)
  case atStart => exact ⟨1, rfl, by omega, by have := HK0.out; omega, hW, hI⟩
  case round =>
    obtain ⟨j, rfl, hj0, hj1, hBk, hIk⟩ := hrel
    have hB : CfAt wr bC c := (HI.out _ wr hIk).1
    have k1 := iskey_ok wr c j
    obtain ⟨p0, p1, p2, p3, p4, p5, p6, p7, p8, p9⟩ := (⟨hB.c0, hB.c1, hB.c2, hB.c3, hB.c4, hB.c5, hB.c6, hB.c7, hB.c8, hB.c9⟩ : _ ∧ _ ∧ _ ∧ _ ∧ _ ∧ _ ∧ _ ∧ _ ∧ _ ∧ _)
    have HJ : Hid (1 ≤ j ∧ j ≤ c.k + 1) := ⟨hj0, hj1⟩
    clear hB hW hI hj0 hj1
    gi_wp2
    refine ⟨trivial, (fun h => by cases h), (callsIn_wide.2 k1).mono ?_⟩
    rintro e w1 ⟨rfl, hb1⟩
    have hB1 := kB _ _ hBk hb1
    have hI1 := kI _ _ _ hIk hb1
    clear k1 hb1 hBk hIk p0 p1 p2 p3 p4 p5 p6 p7 p8 p9
    cases hq : keyB c j
    · have HQ : Hid (j = c.k + 1) := by
        show j = c.k + 1
        have := HJ.out
        by_cases h : j ≤ c.k
        · simp [keyB, h, this.1] at hq
        · omega
      clear hq
      gi_wp2
      go_end0
      exact ⟨⟨_, rfl⟩, .inl ⟨j - 1, ⟨by have := HJ.out; omega, by have := HJ.out; omega, .inl (by have := HQ.out; omega)⟩, hB1, hI1⟩⟩
    · obtain ⟨hB, q1, q2⟩ := HI.out _ w1 hI1
      have k2 := when_ok w1 c sl st j
      unfold whV at k2
      obtain ⟨p0, p1, p2, p3, p4, p5, p6, p7, p8, p9⟩ := (⟨hB.c0, hB.c1, hB.c2, hB.c3, hB.c4, hB.c5, hB.c6, hB.c7, hB.c8, hB.c9⟩ : _ ∧ _ ∧ _ ∧ _ ∧ _ ∧ _ ∧ _ ∧ _ ∧ _ ∧ _)
      have HQ : Hid (j ≤ c.k) := (key_in hq).2
      clear hq hB
      cases hw : whB c sl st j
      · rw [hw, if_neg Bool.false_ne_true] at k2
        have HW : Hid (whB c sl st j = false) := hw
        clear hw
        gi_wp2
        refine ⟨trivial, (fun h => by cases h), (callsIn_wide.2 k2).mono ?_⟩
        rintro e w2 ⟨rfl, hb2⟩
        have hB2 := kB _ _ hB1 hb2
        have hI2 := kI _ _ _ hI1 hb2
        clear k2 hb2 hB1 hI1 p0 p1 p2 p3 p4 p5 p6 p7 p8 p9 q1 q2
        gi_wp2
        refine ⟨(fun _ h => by cases h), ?_⟩
        gi_wp2
        refine bodyPost_ret (results_none rfl _ _ _) rfl ?_
        exact ⟨⟨_, rfl⟩, .inl ⟨j - 1, ⟨by have := HJ.out; omega, by have := HJ.out; omega, .inr (by rw [Int.sub_add_cancel]; exact HW.out)⟩, hB2, hI2⟩⟩
      · rw [hw, if_pos rfl] at k2
        have HW : Hid (whB c sl st j = true) := hw
        clear hw
        gi_wp2
        refine ⟨trivial, (fun h => by cases h), (callsIn_wide.2 k2).mono ?_⟩
        rintro e w2 ⟨rfl, hb2⟩
        have hB2 := kB _ _ hB1 hb2
        have hI2 := kI _ _ _ hI1 hb2
        obtain ⟨fn, tmps, assign, body, hy, hR⟩ := HY.out (j - 1) (j, whN c sl st j) w2 hB2 ⟨hI2, rfl, HJ.out.1, HQ.out, HW.out, rfl⟩
        have HR : Hid (RoundIn Fence.wide (m - 1) Tryz.prog l fn tmps assign body w2 fun e W' => (e = .returned (.bool true) ∧ Bk W' ∧ I j W') ∨ (e = .returned (.bool false) ∧ Bx W')) := hR
        dsimp only at hy
        clear k2 hb2 hB1 hI1 p0 p1 p2 p3 p4 p5 p6 p7 p8 p9 q1 q2 hR hB2 hI2
        gi_wp2
        refine ⟨(fun h => by cases h), HR.out.mono ?_⟩
        clear hy HR
        rintro e W2 (⟨rfl, hB3, hI3⟩ | ⟨rfl, hX3⟩)
        · have e1 : IntKind.i64.wrap (j + 1) = j + 1 := wrap_in (by have := HJ.out; omega) (by have := HJ.out; have := HK.out; omega)
          have HE : Hid (1 ≤ j + 1 ∧ j + 1 ≤ c.k + 1 ∧ j + 1 - 1 = j ∧ (c.k + 1 - (j + 1)).toNat < (c.k + 1 - j).toNat) := by
            have h1 := HJ.out; have h2 := HQ.out
            exact ⟨by omega, by omega, by omega, by omega⟩
          obtain ⟨j2, hj2⟩ : ∃ j2, j2 = j + 1 := ⟨_, rfl⟩
          rw [← hj2] at HE
          have e2 : IntKind.i64.wrap (j + 1) = j2 := by rw [hj2]; exact e1
          clear e1 hj2
          gi_wp2
          go_roundw
          case rel => exact ⟨j2, rfl, HE.out.1, HE.out.2.1, hB3, by rw [HE.out.2.2.1]; exact hI3⟩
          case measure => exact HE.out.2.2.2
        · gi_wp2
          refine bodyPost_ret (results_none rfl _ _ _) rfl ?_
          exact ⟨⟨_, rfl⟩, .inr hX3⟩
end Go.Proofs.YtgncdnejmobjbaaGreatDoor

namespace Go.Proofs.YtgncdnejmobjbaaGreatDoor
open Go.ChangeShapes Go.WideShapes Go.ChangeAt Go.RowKit Go.Shelf
set_option maxRecDepth 20000
attribute [local go_sem] Oper.semAt_some

/-- What Known holds between two rounds: n keys are told, and the last of them is written down in block g; the config, the slot and the start lie behind it; now lies in block q. -/
structure DKI (w : World) (q g : Nat) (c : Cf) (sl st now n : Int) (W : World) : Prop where
  last : Boxed W g 3 (.int .i64 n)
  cf : CfAt W (g + 1) c
  bs : Boxed W (g + 1 + 1) 3 (.int .i64 sl)
  bt : Boxed W (g + 1 + 1 + 1) 3 (.int .i64 st)
  bn : Boxed W q 2 (.int .i64 now)
  lo : 0 ≤ n
  hi : n ≤ c.k
  told : ∀ i, 1 ≤ i → i ≤ n → good c sl st now i
  bel : Below w.heap.size w W
/-- .. and in the end. -/
def KX (w : World) (g : Nat) (c : Cf) (sl st now : Int) (W : World) : Prop := ∃ n, Boxed W g 3 (.int .i64 n) ∧ Kn c sl st now n ∧ Below w.heap.size w W
theorem Turned.cf {B b : Nat} {c : Cf} {W W' : World} (h : Turned B W W') (hb : CfAt W b c) : CfAt W' b c := h.block hb rfl
theorem DKI.turned {w : World} {q g : Nat} {c : Cf} {sl st now n : Int} {W W' : World} {B : Nat} (h : DKI w q g c sl st now n W) (hB : w.heap.size ≤ B) (ht : Turned B W W') : DKI w q g c sl st now n W' :=
  ⟨ht.boxed h.last, ht.cf h.cf, ht.boxed h.bs, ht.boxed h.bt, ht.boxed h.bn, h.lo, h.hi, h.told, ht.below h.bel hB⟩
theorem DKI.below {w : World} {q g : Nat} {c : Cf} {sl st now n : Int} {W W' : World} (h : DKI w q g c sl st now n W) (hb : Below W.heap.size W W') : DKI w q g c sl st now n W' :=
  ⟨Boxed.below h.last hb, h.cf.below hb, Boxed.below h.bs hb, Boxed.below h.bt hb, Boxed.below h.bn hb, h.lo, h.hi, h.told, h.bel.trans (hb.mono h.bel.size)⟩
theorem KX.turned {w : World} {g : Nat} {c : Cf} {sl st now : Int} {W W' : World} {B : Nat} (h : KX w g c sl st now W) (hB : w.heap.size ≤ B) (ht : Turned B W W') : KX w g c sl st now W' := by
  obtain ⟨n, h1, h2, h3⟩ := h
  exact ⟨n, ht.boxed h1, h2, ht.below h3 hB⟩
theorem KX.below {w : World} {g : Nat} {c : Cf} {sl st now : Int} {W W' : World} (h : KX w g c sl st now W) (hb : Below W.heap.size W W') : KX w g c sl st now W' := by
  obtain ⟨n, h1, h2, h3⟩ := h
  exact ⟨n, Boxed.below h1 hb, h2, h3.trans (hb.mono h3.size)⟩

theorem Boxed.aside {W : World} {b g : Nat} {t : TypeId} {v : Value} (h : Boxed W b t v) (hne : b ≠ g) (u : Value) : Boxed (W.setCell ⟨g, 0, none⟩ u) b t v := by
  unfold Boxed; rw [heap_setCell_other _ _ _ _ (by simpa using hne)]; exact h
/-- A further key is told. -/
theorem DKI.put {w : World} {q g : Nat} {c : Cf} {sl st now n j : Int} {W : World} (h : DKI w q g c sl st now n W) (hq : q < g) (hg : w.heap.size ≤ g) (hn : n = j - 1) (hk : j ≤ c.k) (hj : good c sl st now j) : DKI w q g c sl st now j (W.setCell ⟨g, 0, none⟩ (.int .i64 j)) := by
  refine ⟨h.last.set _, ?_, Boxed.aside h.bs (by omega) _, Boxed.aside h.bt (by omega) _, Boxed.aside h.bn (by omega) _, by have := h.lo; omega, hk, ?_, h.bel.setCell (p := ⟨g, 0, none⟩) hg _⟩
  · refine h.cf.keep ?_
    rw [heap_setCell_other _ _ _ _ (by simp)]
  · intro i h0 h1
    by_cases he : i = j
    · rw [he]; exact hj
    · exact h.told i h0 (by omega)
/-- What Known begins with. -/
structure KB (w : World) (q : Nat) (c : Cf) (now : Int) (W : World) : Prop where
  cfg : Cfg w w.heap.size c W
  bn : Boxed W q 2 (.int .i64 now)
theorem KB.new (w : World) (c : Cf) (now : Int) : KB w (w.heap.size + 1) c now ((w.alloc (.cells (cfC c) 23)).alloc (.cells #[.int .i64 now] 2)) :=
  ⟨⟨(CfAt.new w c).alloc _, Nat.le_refl _, Go.Joins.below_alloc2 _ _ _⟩, by
    have := Boxed.new (w.alloc (.cells (cfC c) 23)) 2 (.int .i64 now)
    rw [World.size_alloc] at this
    exact this⟩
theorem KB.step {w W V : World} {q : Nat} {c : Cf} {now : Int} (h : KB w q c now W) (hb : Below W.heap.size W V) : KB w q c now V := ⟨h.cfg.step hb, Boxed.below h.bn hb⟩
theorem KB.alloc {w W : World} {q : Nat} {c : Cf} {now : Int} (h : KB w q c now W) (o : Obj) : KB w q c now (W.alloc o) := h.step (Go.Joins.below_alloc1 _ _)

set_option maxRecDepth 100000 in
set_option maxHeartbeats 4000000 in
set_option maxRecDepth 20000 in
theorem known_ok (w : World) (c : Cf) (sl st now : Int) : Calls Tryz.prog 36 #[.agg (cfC c), .int .i64 sl, .int .i64 st, .int .i64 now] w fun e w' =>
    ((knB c sl st now = false ∧ e = .returned (.tuple #[.int .i64 0, .int .i64 1])) ∨ (knB c sl st now = true ∧ ∃ n, e = .returned (.tuple #[.int .i64 n, .int .i64 0]) ∧ Kn c sl st now n)) ∧ Below w.heap.size w w' := by
  have H0 : Hid (KB w (w.heap.size + 1) c now ((w.alloc (.cells (cfC c) 23)).alloc (.cells #[.int .i64 now] 2))) := KB.new w c now
  have K1 := place_ok ((w.alloc (.cells (cfC c) 23)).alloc (.cells #[.int .i64 now] 2)) c now
  have hv : ∃ x y z : Int, placeV c now = .tuple #[.agg #[.int .i64 x, .int .i64 y, .int .i64 z], .int .i64 (if placeB c now = true then 0 else 1)] := by
    unfold placeV
    cases placeB c now
    · exact ⟨0, 0, 0, rfl⟩
    · exact ⟨_, _, _, rfl⟩
  obtain ⟨x, y, z, hv⟩ := hv
  rw [hv] at K1
  have K2 := fun W => isround_ok W st
  have q1 := H0.out.bn.cell
  obtain ⟨p0, p1, p2, p3, p4, p5, p6, p7, p8, p9⟩ := H0.out.cfg.held.1
  cases hp : placeB c now
  case false =>
    rw [hp, if_neg Bool.false_ne_true] at K1
    have HK : Hid (knB c sl st now = false) := by show knB c sl st now = false; simp [knB, hp]
    clear hp hv K2
    go_enter Tryz.func36, Tryz.ntmps36
    go_wp2_with fail
    refine K1.mono ?_
    rintro e w1 ⟨rfl, hb⟩
    have H1 := H0.out.step hb
    have H2 : Hid (KB w (w.heap.size + 1) c now w1) := H1
    clear H1 K1 H0 hb p0 p1 p2 p3 p4 p5 p6 p7 p8 p9 q1
    have H3 : Hid (KB w (w.heap.size + 1) c now (w1.alloc (.cells #[.int .i64 x, .int .i64 y, .int .i64 z] 99))) := H2.out.alloc _
    clear H2
    go_wp2
    go_ret2
    exact ⟨.inl ⟨HK.out, rfl⟩, H3.out.cfg.bel⟩
  rw [hp, if_pos rfl] at K1
  cases h2 : roundB st
  case false =>
    rw [h2] at K2
    have K2' : Hid (∀ W, Calls Tryz.prog 61 #[.int .i64 st] W fun e w' => e = .returned (.bool false) ∧ w' = W) := K2
    have HK : Hid (knB c sl st now = false) := by show knB c sl st now = false; simp [knB, h2]
    clear hp hv K2 h2
    go_enter Tryz.func36, Tryz.ntmps36
    go_wp2_with fail
    refine K1.mono ?_
    rintro e w1 ⟨rfl, hb⟩
    have H2 : Hid (KB w (w.heap.size + 1) c now w1) := H0.out.step hb
    have H3 : Hid (KB w (w.heap.size + 1) c now (w1.alloc (.cells #[.int .i64 x, .int .i64 y, .int .i64 z] 99))) := H2.out.alloc _
    clear H2 K1 H0 hb p0 p1 p2 p3 p4 p5 p6 p7 p8 p9 q1
    go_wp2_with fail
    refine (K2'.out _).mono ?_
    rintro e w2 ⟨rfl, rfl⟩
    clear K2'
    go_wp2
    go_ret2
    exact ⟨.inl ⟨HK.out, rfl⟩, H3.out.cfg.bel⟩
  rw [h2] at K2
  have K2' : Hid (∀ W, Calls Tryz.prog 61 #[.int .i64 st] W fun e w' => e = .returned (.bool true) ∧ w' = W) := K2
  have K3 := fun W => isslot_ok W c sl
  cases h3 : sltB c sl
  case false =>
    rw [h3] at K3
    have K3' : Hid (∀ W, Calls Tryz.prog 62 #[.agg (cfC c), .int .i64 sl] W fun e w' => e = .returned (.bool false) ∧ Below W.heap.size W w') := K3
    have HK : Hid (knB c sl st now = false) := by
      show knB c sl st now = false
      unfold sltB at h3
      simp [knB, h3]
    clear hp hv K2 h2 K3 h3
    go_enter Tryz.func36, Tryz.ntmps36
    go_wp2_with fail
    refine K1.mono ?_
    rintro e w1 ⟨rfl, hb⟩
    have H2 : Hid (KB w (w.heap.size + 1) c now w1) := H0.out.step hb
    have H3 : Hid (KB w (w.heap.size + 1) c now (w1.alloc (.cells #[.int .i64 x, .int .i64 y, .int .i64 z] 99))) := H2.out.alloc _
    clear H2 K1 H0 hb p0 p1 p2 p3 p4 p5 p6 p7 p8 p9 q1
    go_wp2_with fail
    refine (K2'.out _).mono ?_
    rintro e w2 ⟨rfl, hw⟩
    rw [← hw] at H3
    obtain ⟨p0, p1, p2, p3, p4, p5, p6, p7, p8, p9⟩ := H3.out.cfg.held.1
    clear K2' hw
    go_wp2_with fail
    refine (K3'.out _).mono ?_
    rintro e w3 ⟨rfl, hb⟩
    have H4 : Hid (KB w (w.heap.size + 1) c now w3) := H3.out.step hb
    clear K3' hb H3 p0 p1 p2 p3 p4 p5 p6 p7 p8 p9
    go_wp2
    go_ret2
    exact ⟨.inl ⟨HK.out, rfl⟩, H4.out.cfg.bel⟩
  rw [h3] at K3
  have K3' : Hid (∀ W, Calls Tryz.prog 62 #[.agg (cfC c), .int .i64 sl] W fun e w' => e = .returned (.bool true) ∧ Below W.heap.size W w') := K3
  have hsl : 0 ≤ sl ∧ sl < c.n := of_decide_eq_true h3
  have HK : Hid (knB c sl st now = true) := by show knB c sl st now = true; simp [knB, hp, h2, hsl]
  clear hp hv K2 h2 K3 h3 hsl
  refine (callsIn_wide (n := 9)).1 ?_
  refine callsIn_of_wp_marks Tryz.func36 rfl trivial ?_ rfl
  simp only [Tryz.ntmps36, List.size_toArray, List.length_cons, List.length_nil, Nat.reduceAdd, Nat.reduceSub, Array.replicate_succ, Array.replicate_zero, List.push_toArray, List.append_toArray, List.nil_append, List.cons_append]
  gi_wp2
  refine ⟨trivial, (callsIn_wide.2 K1).mono ?_⟩
  rintro e w1 ⟨rfl, hb⟩
  have H2 : Hid (KB w (w.heap.size + 1) c now w1) := H0.out.step hb
  have H3 : Hid (KB w (w.heap.size + 1) c now (w1.alloc (.cells #[.int .i64 x, .int .i64 y, .int .i64 z] 99))) := H2.out.alloc _
  clear H2 K1 H0 hb p0 p1 p2 p3 p4 p5 p6 p7 p8 p9 q1
  gi_wp2
  refine ⟨trivial, (callsIn_wide.2 (K2'.out _)).mono ?_⟩
  rintro e wa ⟨rfl, hw⟩
  rw [← hw] at H3
  obtain ⟨p0, p1, p2, p3, p4, p5, p6, p7, p8, p9⟩ := H3.out.cfg.held.1
  have HA : Hid (KB w (w.heap.size + 1) c now wa) := H3.out
  clear K2' hw H3
  gi_wp2
  refine ⟨trivial, (callsIn_wide.2 (K3'.out _)).mono ?_⟩
  rintro e w2 ⟨rfl, hb⟩
  have H3 : Hid (KB w (w.heap.size + 1) c now w2) := HA.out.step hb
  clear K3' hb HA p0 p1 p2 p3 p4 p5 p6 p7 p8 p9
  have H4 : Hid (KB w (w.heap.size + 1) c now (w2.alloc (.cells #[.int .i64 0] 3))) := H3.out.alloc _
  obtain ⟨p0, p1, p2, p3, p4, p5, p6, p7, p8, p9⟩ := H4.out.cfg.held.1
  have K4 := tellings_ok (w2.alloc (.cells #[.int .i64 0] 3)) c sl st
  rw [World.size_alloc] at K4
  gi_wp2
  refine ⟨trivial, (callsIn_wide.2 K4).mono ?_⟩
  rintro e w' ⟨rfl, hw'⟩
  rw [hw']
  clear K4 hw' w' p0 p1 p2 p3 p4 p5 p6 p7 p8 p9
  gi_wp2
  obtain ⟨W0, hW0⟩ : ∃ W0, W0 = (((w2.alloc (.cells #[.int .i64 0] 3)).alloc (.cells (cfC c) 23)).alloc (.cells #[.int .i64 sl] 3)).alloc (.cells #[.int .i64 st] 3) := ⟨_, rfl⟩
  have hsz : W0.heap.size = w2.heap.size + 4 := by rw [hW0]; simp
  have HQ : Hid (w.heap.size + 1 < w2.heap.size) := H3.out.bn.lt
  have hI0 : DKI w (w.heap.size + 1) w2.heap.size c sl st now 0 W0 := by
    have a1 := Boxed.new w2 3 (.int .i64 0)
    have a2 := CfAt.new (w2.alloc (.cells #[.int .i64 0] 3)) c
    have a3 := Boxed.new ((w2.alloc (.cells #[.int .i64 0] 3)).alloc (.cells (cfC c) 23)) 3 (.int .i64 sl)
    have a4 := Boxed.new (((w2.alloc (.cells #[.int .i64 0] 3)).alloc (.cells (cfC c) 23)).alloc (.cells #[.int .i64 sl] 3)) 3 (.int .i64 st)
    rw [World.size_alloc] at a2
    rw [World.size_alloc, World.size_alloc] at a3
    rw [World.size_alloc, World.size_alloc, World.size_alloc] at a4
    have hk := (right_of (place_ok' (kn_in HK.out).1).1).k0
    have hd := (right_of (place_ok' (kn_in HK.out).1).1).d0
    rw [hW0]
    exact ⟨((a1.alloc _).alloc _).alloc _, (a2.alloc _).alloc _, a3.alloc _, a4, (((H4.out.bn).alloc _).alloc _).alloc _, Int.le_refl _, by omega, fun i h0 h1 => by omega, (((H4.out.alloc _).alloc _).alloc _).cfg.bel⟩
  rw [← hW0]
  have HW0 : Hid (w.heap.size ≤ W0.heap.size ∧ w.heap.size ≤ w2.heap.size) := by
    have := HQ.out
    exact ⟨by omega, by omega⟩
  clear hW0 hsz H3 H4
  refine range_pre 80 #[.pointer (some ⟨w2.heap.size + 1, 0, none⟩), .pointer (some ⟨w2.heap.size + 1 + 1, 0, none⟩), .pointer (some ⟨w2.heap.size + 1 + 1 + 1, 0, none⟩)] rfl (enters_of Tryz.func80 (by kernel_rfl) rfl)
    (fun p : Int × Int => #[.int .i64 p.1, .int .i64 p.2]) (fun _ => rfl) (DKI w (w.heap.size + 1) w2.heap.size c sl st now) (fun s p W => DKI w (w.heap.size + 1) w2.heap.size c sl st now s W ∧ s = p.1 - 1 ∧ 1 ≤ p.1 ∧ p.1 ≤ c.k ∧ whB c sl st p.1 = true ∧ p.2 = whN c sl st p.1) (fun _ p => p.1) (fun e _ W => e = .exit 4 ∧ KX w w2.heap.size c sl st now W)
    (fun s => 0 ≤ s ∧ s ≤ c.k ∧ (s = c.k ∨ whB c sl st (s + 1) = false)) ?fI ?fP ?fX
    (fun p => { tmps := #[.agg (cfC c), .int .i64 sl, .int .i64 st, .int .i64 now, .pointer (some ⟨w.heap.size, 0, none⟩), undef, undef, .pointer (some ⟨w.heap.size + 1, 0, none⟩), .int .i64 0, .int .i64 0, .pointer (some ⟨w1.heap.size, 0, none⟩), .int .i64 0, .pointer (some ⟨w2.heap.size, 0, none⟩), .int .i64 p.1, .int .i64 p.2, .tuple #[.agg #[.int .i64 x, .int .i64 y, .int .i64 z], .int .i64 0], .agg #[.int .i64 c.n, .int .i64 c.f, .int .i64 c.s, .int .i64 c.d, .int .i64 c.k, .int .i64 c.e, .int .i64 c.v, .int .i64 c.r, .int .i64 c.l, .int .i64 c.p], .int .i64 now, .tuple #[.agg #[.int .i64 x, .int .i64 y, .int .i64 z], .int .i64 0], .agg #[.int .i64 x, .int .i64 y, .int .i64 z], .int .i64 0, .bool false, .int .i64 0, .bool false, .bool false, .int .i64 st, .bool true, .bool false, .bool false, .agg #[.int .i64 c.n, .int .i64 c.f, .int .i64 c.s, .int .i64 c.d, .int .i64 c.k, .int .i64 c.e, .int .i64 c.v, .int .i64 c.r, .int .i64 c.l, .int .i64 c.p], .int .i64 sl, .bool true, .bool false, .agg #[.int .i64 c.n, .int .i64 c.f, .int .i64 c.s, .int .i64 c.d, .int .i64 c.k, .int .i64 c.e, .int .i64 c.v, .int .i64 c.r, .int .i64 c.l, .int .i64 c.p], .int .i64 sl, .int .i64 st, .func (.func 80) #[] #[.pointer (some ⟨w2.heap.size + 1, 0, none⟩), .pointer (some ⟨w2.heap.size + 1 + 1, 0, none⟩), .pointer (some ⟨w2.heap.size + 1 + 1 + 1, 0, none⟩)], .int .i64 p.1, .int .i64 p.2, undef, undef, undef, undef, undef], defers := [] })
    ?assign ?body ?iter ?kX ?done ?stop
  case fI => exact fun s V V' h ht => h.turned HW0.out.1 ht
  case fP => exact fun s x V V' ⟨h1, h2⟩ ht => ⟨h1.turned HW0.out.1 ht, h2⟩
  case fX => exact fun c s V V' ⟨h1, h2⟩ ht => ⟨h1, h2.turned HW0.out.1 ht⟩
  case kX => exact fun c s V V' ⟨h1, h2⟩ hb => ⟨h1, h2.below hb⟩
  case assign =>
    intro l x W K hK
    gi_wp2
    exact hK
  case body =>
    rintro l s ⟨j, T⟩ W ⟨hI, hs, hj0, hj1, hw, hT⟩
    show Code.wpIn _ _ _ _ (roundEnds W0.heap.size (DKI w (w.heap.size + 1) w2.heap.size c sl st now) (fun e _ W => e = .exit 4 ∧ KX w w2.heap.size c sl st now W) j W) _ _
    dsimp only at hs hj0 hj1 hw hT
    have c1 := hI.last.cell
    have f1 := hI.last.frozen
    have c2 := hI.bn.cell
    by_cases hlt : T ≤ now
    · have HE : Hid (KeepsFrom W0.heap.size W (W.setCell ⟨w2.heap.size, 0, none⟩ (.int .i64 j)) ∧ DKI w (w.heap.size + 1) w2.heap.size c sl st now j (W.setCell ⟨w2.heap.size, 0, none⟩ (.int .i64 j))) :=
        ⟨(KeepsOthers.setCell _ _ _).from _, hI.put HQ.out HW0.out.2 hs hj1 ⟨(cell_ok (wh_in hw).2.2.2).2.1, by rw [← hT]; exact hlt⟩⟩
      clear hI hs hj0 hj1 hw hT hI0
      gi_wp2
      exact HE.out
    · have HE : Hid (KeepsFrom W0.heap.size W W ∧ KX w w2.heap.size c sl st now W) :=
        ⟨KeepsFrom.refl _ _, s, hI.last, ⟨hI.lo, hI.hi, hI.told, fun _ hg => by
          rw [hs, Int.sub_add_cancel] at hg
          exact hlt (by rw [hT]; exact hg.2)⟩, hI.bel⟩
      clear hI hs hj0 hj1 hw hT hI0
      gi_wp2
      exact ⟨HE.out.1, rfl, HE.out.2⟩
  case iter =>
    intro l W1 hB1 hs1 hl Bk Bx kB hY kX hBk
    have g := right_of (place_ok' (kn_in HK.out).1).1
    exact tell_in 8 l _ _ _ c sl st (by have := g.d0; have := g.k0; omega) g.k1 (DKI w (w.heap.size + 1) w2.heap.size c sl st now) (fun s W W' h hb => h.below hb) (fun s W h => ⟨h.cf, h.bs.cell, h.bt.cell⟩) Bk Bx kB hY W1 hBk (hI0.below hB1)
  case done =>
    rintro D s V hD ⟨hs0, hs1, hs⟩ hI hK
    have c1 := hI.last.cell
    have HE : Hid (Kn c sl st now s ∧ Below w.heap.size w V) := by
      refine ⟨⟨hI.lo, hI.hi, hI.told, fun hlt hg => ?_⟩, hI.bel⟩
      obtain ⟨hp, hst, hsl⟩ := kn_in HK.out
      rcases hs with h | h
      · omega
      · rw [wh_of (place_ok' hp).1 hst.1 hst.2 hsl.1 hsl.2 (by omega) (by omega)] at h
        exact absurd hg.1 (of_decide_eq_false h)
    have HK2 : Hid (V.heap[D]? = some (.deferred (some []))) := hK
    clear hI hK hI0 hs hs0 hs1
    gi_wp2
    refine ⟨by simp, .inl ⟨_, _, rfl, run_takeDeferred HK2.out, ?_⟩⟩
    refine ⟨_, results_tmp2 rfl _ _ _, .inr ⟨HK.out, s, rfl, HE.out.1⟩, ?_⟩
    exact HE.out.2.trans (belowK_b (w := w) (Nat.le_refl _) V D _ _ (by have := HW0.out; omega) HK2.out rfl rfl)
  case stop =>
    rintro D e s V hD ⟨rfl, n, b2, hn, hB⟩ hK
    have c2 := b2.cell
    have HE : Hid (Kn c sl st now n ∧ Below w.heap.size w V) := ⟨hn, hB⟩
    have HK2 : Hid (V.heap[D]? = some (.deferred (some []))) := hK
    clear b2 hI0 hK hn hB
    gi_wp2
    refine ⟨by simp, .inl ⟨_, _, rfl, run_takeDeferred HK2.out, ?_⟩⟩
    refine ⟨_, results_tmp2 rfl _ _ _, .inr ⟨HK.out, n, rfl, HE.out.1⟩, ?_⟩
    exact HE.out.2.trans (belowK_b (w := w) (Nat.le_refl _) V D _ _ (by have := HW0.out; omega) HK2.out rfl rfl)
end Go.Proofs.YtgncdnejmobjbaaGreatDoor

namespace Go.Proofs.YtgncdnejmobjbaaGreatDoor
open Go.ChangeShapes Go.WideShapes Go.ChangeAt Go.RowKit
set_option maxRecDepth 20000

theorem idx_yes {c : Cf} {st r : Int} (hs : sinB c st r = true) (hk : keyB c (r - st) = true) : idxV c st r = .tuple #[.int .i64 (r - st), .int .i64 0] := by rw [idxV, if_pos hs, if_pos hk]
theorem idx_cases (c : Cf) (st r : Int) : (sinB c st r = true ∧ keyB c (r - st) = true) ∨ idxV c st r = .tuple #[.int .i64 0, .int .i64 1] ∨ idxV c st r = .tuple #[.int .i64 0, .int .i64 6] := by
  unfold idxV
  cases sinB c st r
  · exact .inr (.inl rfl)
  · cases keyB c (r - st)
    · exact .inr (.inr rfl)
    · exact .inl ⟨rfl, rfl⟩
theorem wh_round (c : Cf) (sl st r : Int) : whN c sl st (r - st) = atN c (r + c.d) sl := by
  unfold whN
  rw [show st + (r - st) + c.d = r + c.d by omega]
/-- A secret is not known, what is known is no secret. -/
theorem sec_kn {c : Cf} {sl st r now n : Int} (hs : sinB c st r = true) (hk : keyB c (r - st) = true) (h : Kn c sl st now n) :
    secN c sl st r now = 1 ∨ (secN c sl st r now = 0 ∧ n < r - st) ∨ (secN c sl st r now = 12 ∧ ¬ n < r - st) := by
  have ho := (sin_in hs).1
  have hi := key_in hk
  have hiff := h.iff ho hi.1 hi.2
  unfold secN
  rw [if_pos hs, if_pos hk]
  cases timeB now
  · exact .inl rfl
  · rw [if_pos rfl]
    cases hw : whB c sl st (r - st)
    · exact .inl rfl
    · rw [if_pos rfl]
      have h1 := (cell_ok (wh_in hw).2.2.2).2.1
      by_cases hT : whN c sl st (r - st) ≤ now
      · rw [if_pos hT]
        have := hiff.1 ⟨h1, hT⟩
        exact .inr (.inr ⟨rfl, by omega⟩)
      · rw [if_neg hT]
        refine .inr (.inl ⟨rfl, ?_⟩)
        have : ¬ (r - st ≤ n) := fun hle => hT (hiff.2 hle).2
        omega
theorem rsec_kn {c : Cf} {sl st r now n : Int} (hs : sinB c st r = true) (hk : keyB c (r - st) = true) (h : Kn c sl st now n) :
    rsecN c sl st r now = 1 ∨ (rsecN c sl st r now = 0 ∧ n < r - st) ∨ (rsecN c sl st r now = 12 ∧ ¬ n < r - st) := by
  unfold rsecN
  by_cases hsl : 0 ≤ sl ∧ sl < c.n
  · rw [if_pos hsl]
    exact sec_kn hs hk h
  · rw [if_neg hsl]
    exact .inl rfl
/-- Told in its time. -/
theorem tol_eq {c : Cf} {st r : Int} (hs : sinB c st r = true) (hk : keyB c (r - st) = true) (hr : r ≤ 1048570) : tolV c st (r + c.d) = .tuple #[.int .i64 (r - st), .int .i64 0] := by
  obtain ⟨ho, hst, hr0⟩ := sin_in hs
  have g := right_of ho
  have hd0 := g.d0
  have hd1 := g.d1
  have hi := key_in hk
  rw [tolV, if_pos (by simp only [sinB, roundB, ho, Bool.true_and, Bool.and_eq_true, decide_eq_true_eq]; omega), if_pos (by omega)]
  rw [show tolN c (r + c.d - st) = r - st by unfold tolN mnN mxN; split <;> split <;> omega]
theorem told_facts {c : Cf} {sl st r : Int} (hs : sinB c st r = true) (hk : keyB c (r - st) = true) (hc : cellB c (r + c.d) sl = true) :
    knB c sl st (atN c (r + c.d) sl) = true ∧ knB c sl st (atN c (r + c.d) sl - 1) = true ∧ (∀ n, Kn c sl st (atN c (r + c.d) sl) n → n = r - st) ∧ (∀ n, Kn c sl st (atN c (r + c.d) sl - 1) n → n < r - st) ∧ 1 ≤ atN c (r + c.d) sl ∧ atN c (r + c.d) sl ≤ 83886080000 := by
  obtain ⟨ho, hst, hr0⟩ := sin_in hs
  have g := right_of ho
  have hd0 := g.d0
  have hi := key_in hk
  obtain ⟨hp, hq, _, _⟩ := place_at hc
  obtain ⟨b1, b2, b3, b4, b5, b6, b7, b8⟩ := at_in hc
  obtain ⟨c0, c1, hn⟩ := cell_ok hc
  obtain ⟨_, n0, n1⟩ := node_ok hn
  have hR := rnd_in ho
  have hT1 : 1 ≤ atN c (r + c.d) sl := by
    have : 1 * rndN c ≤ (r + c.d) * rndN c := Int.mul_le_mul_of_nonneg_right (by omega) (by omega)
    unfold atN
    omega
  have hwr := wh_round c sl st r
  refine ⟨?_, ?_, ?_, ?_, hT1, b6⟩
  · simp [knB, hp, roundB, hst, n0, n1]
  · have hp2 : placeB c (atN c (r + c.d) sl - 1) = true := by
      have hle : (atN c (r + c.d) sl - 1) / rndN c ≤ atN c (r + c.d) sl / rndN c := Int.ediv_le_ediv (by omega) (by omega)
      simp only [placeB, timeB, ho, Bool.true_and, Bool.and_eq_true, decide_eq_true_eq]
      rw [hq] at hle
      exact ⟨⟨by omega, by omega⟩, by omega⟩
    simp [knB, hp2, roundB, hst, n0, n1]
  · intro n h
    have h1 := (h.iff ho hi.1 hi.2).1 ⟨by omega, by rw [hwr]; exact Int.le_refl _⟩
    by_cases he : n = r - st
    · exact he
    · have h2 := h.told (r - st + 1) (by omega) (by omega)
      have h3 := wh_next ho sl st (r - st)
      have h4 := h2.2
      rw [hwr] at h3
      omega
  · intro n h
    by_cases hlt : n < r - st
    · exact hlt
    · have h2 := (h.told (r - st) hi.1 (by omega)).2
      rw [hwr] at h2
      omega
end Go.Proofs.YtgncdnejmobjbaaGreatDoor
