/-
  The walk of GuardFew.
-/
import Derived.Test.YtmionehafekokaaGrdD
import Derived.Test.YtmionehafekokaaNums
namespace Go.Proofs.Ytmionehafekokaa
open Go.ChangeShapes Go.WideShapes Go.ChangeAt Go.RowKit

theorem min2i (a b : Int) (w : World) : (Builtin.min_ #[3, 3] 3 #[.int .i64 a, .int .i64 b]).run Try.prog w = .ok (.int .i64 (min a b)) w := by
  simp only [Builtin.min_, List.foldlM_cons, List.foldlM_nil, Builtin.min2, Sem.run_bind, Sem.run_pure, Result.andThen_ok]
  congr 2
  omega
theorem bounds_u8 {x : Int} (h : (Lit.int .u8 x).wf = true) : 0 ≤ x ∧ x < 256 := by
  simp [Lit.wf, IntKind.min, IntKind.max, IntKind.signed, IntKind.bits] at h; omega

/-- How many are let through of k. -/
def fewN (c : Cf) (t : Int) (k : Nat) : Int := if placeB c t = true then min (k : Int) (4 * c.n) else 0
structure Few (c : Cf) (t : Int) (k : Nat) (v : Gs) : Prop where
  ec : v.c = c
  en : placeB c t = true → (v.os.count (rdN c t) : Int) = min (k : Int) (4 * c.n)
theorem few_new (c : Cf) (i t : Int) (h : nodeB c i = true) : Few c t 0 (newG c i) := ⟨rfl, fun _ => by
  have := (right_of (node_ok h).1).n0
  simp [newG]; omega⟩
theorem few_none (c : Cf) (t : Int) (k : Nat) (h : placeB c t = false) : fewN c t k = 0 := by simp [fewN, h]
theorem few_in (c : Cf) (t : Int) (k : Nat) : placeB c t = true → fewN c t k = min (k : Int) (4 * c.n) := fun h => by rw [fewN, if_pos h]
theorem Few.step {c : Cf} {t : Int} {k : Nat} {v : Gs} (h : Few c t k v) : Few c t (k + 1) (othV v t) ∧ ((othE v t = 0 ∧ fewN c t (k + 1) = fewN c t k + 1) ∨ ((othE v t == 0) = false ∧ fewN c t (k + 1) = fewN c t k)) := by
  have hc := h.ec
  by_cases hp : placeB c t = true
  · have hn := h.en hp
    have ho := (rd_in hp).2.2
    have n0 := (right_of ho).n0
    rw [few_in c t k hp, few_in c t (k + 1) hp]
    by_cases hf : 4 * c.n ≤ (v.os.count (rdN c t) : Int)
    · have e : othE v t = 9 := by rw [othE, hc, if_pos hp, if_pos hf]
      have ev : othV v t = v := by rw [othV, e]; rfl
      rw [ev, e]
      exact ⟨⟨hc, fun _ => by rw [hn] at hf ⊢; push_cast; omega⟩, .inr ⟨rfl, by rw [hn] at hf; push_cast; omega⟩⟩
    · have e : othE v t = 0 := by rw [othE, hc, if_pos hp, if_neg hf]
      have ev : othV v t = { v with os := keepL v.os (rdN c t - 64) ++ [rdN c t] } := by rw [othV, e, hc]; rfl
      rw [ev, e]
      refine ⟨⟨hc, fun _ => ?_⟩, .inl ⟨rfl, by rw [hn] at hf; push_cast; omega⟩⟩
      show ((keepL v.os (rdN c t - 64) ++ [rdN c t]).count (rdN c t) : Int) = _
      rw [count_snoc, if_pos rfl, count_keep _ _ _ (by omega)]
      push_cast
      rw [hn] at hf ⊢
      omega
  · have e : othE v t = 1 := by rw [othE, hc, if_neg hp]
    have ev : othV v t = v := by rw [othV, e]; rfl
    have hp' : placeB c t = false := by simpa using hp
    rw [ev, e, few_none c t k hp', few_none c t (k + 1) hp']
    exact ⟨⟨hc, fun h => absurd h hp⟩, .inr ⟨rfl, rfl⟩⟩

set_option maxHeartbeats 4000000 in
set_option maxRecDepth 20000 in
theorem few_walk (c : Cf) (i t x : Int) (w : World) (_w1 : (Lit.int .i64 i).wf = true) (_w2 : (Lit.int .i64 t).wf = true) (w3 : (Lit.int .u8 x).wf = true) :
    Calls Try.prog 5 #[.agg (cfC c), .int .i64 i, .int .i64 t, .int .u8 x] w fun e w' => e = .returned (.bool true) ∧ Below w.heap.size w w' := by
  have bx := bounds_u8 w3
  have wx : IntKind.i64.wrap x = x := wrap_in (by omega) (by omega)
  have H0 : Hid (Cfg w w.heap.size c (w.alloc (.cells (cfC c) 23))) := Cfg.new w c
  have HL : Hid ((Instr.loadAt 23 (.pointer (some ⟨w.heap.size, 0, none⟩))).run Try.prog (w.alloc (.cells (cfC c) 23)) = .ok (.agg (cfC c)) (w.alloc (.cells (cfC c) 23))) := H0.out.own.loads
  have KA : Hid (∀ W, Below w.heap.size w W → Calls Try.prog 9 #[] W fun e w' => e = .returned (.bool true) ∧ Below w.heap.size w w') := fun W hW => (awake_ok W).mono fun _ _ ⟨h1, h2⟩ => ⟨h1, hW.trans (h2.mono hW.size)⟩
  cases hn : nodeB c i
  · have K1 := new_no (w.alloc (.cells (cfC c) 23)) c i hn
    clear hn
    go_enter Try.func5, Try.ntmps5
    go_wp2_with (first | (refine wpList_gload_run rfl 23 _ rfl _ _ rfl HL.out ?_) | fail)
    refine K1.mono ?_
    rintro e w1 ⟨rfl, hb⟩
    have ka := KA.out w1 (H0.out.step hb).bel
    clear K1 HL H0 hb KA
    go_wp2_with fail
    refine ka.mono ?_
    rintro e w2 ⟨rfl, hb⟩
    have HB : Hid (Below w.heap.size w w2) := hb
    clear ka hb
    go_wp2
    go_ret
    exact ⟨rfl, HB.out⟩
  have n0 := (right_of (node_ok hn).1).n0
  have n1 := (right_of (node_ok hn).1).n1
  have K1 := solo_new (w.alloc (.cells (cfC c) 23)) (w.alloc (.cells (cfC c) 23)) (Below.refl _ _) c i hn
  have HN : Hid (Few c t 0 (newG c i)) := few_new c i t hn
  clear hn
  go_enter Try.func5, Try.ntmps5
  go_wp2_with (first | (refine wpList_gload_run rfl 23 _ rfl _ _ rfl HL.out ?_) | fail)
  refine K1.mono ?_
  rintro e wa ⟨g, rfl, ha⟩
  have HS : Hid (Solo (w.alloc (.cells (cfC c) 23)) wa g (newG c i) 0) := ha
  clear K1 HL ha
  go_wp2
  go_loopw [11, 12] (fun u z wr => ∃ (k : Nat) (v : Gs) (y : Int), (k : Int) ≤ x ∧ u = .int .i64 y ∧ y = fewN c t k ∧ z = .int .i64 (k : Int) ∧ Few c t k v ∧ Solo (w.alloc (.cells (cfC c) 23)) wr g v k) (fun _ z _ => (x - intOf z).toNat)
  case atStart => exact ⟨0, _, 0, by simpa using bx.1, rfl, by unfold fewN; split <;> simp <;> omega, rfl, HN.out, HS.out⟩
  case round =>
    obtain ⟨k, v, y, hk, rfl, hy, rfl, hf, hs⟩ := hrel
    clear HN HS
    by_cases hkx : (k : Int) < x
    · have ko := hs.other (by omega) t
      obtain ⟨hf2, hE⟩ := hf.step
      have HF : Hid (Few c t (k + 1) (othV v t)) := hf2
      have y1 : -1 ≤ y ∧ y ≤ 255 := by rw [hy]; unfold fewN; split <;> omega
      have wy : IntKind.i64.wrap (y + 1) = y + 1 := wrap_in (by omega) (by omega)
      have wk : IntKind.i64.wrap ((k : Int) + 1) = (k : Int) + 1 := wrap_in (by omega) (by omega)
      clear hf hf2 hs
      rcases hE with ⟨e0, e1⟩ | ⟨e0, e1⟩
      · rw [e0] at ko
        have hY : y + 1 = fewN c t (k + 1) := by rw [e1, hy]
        have HY : Hid (y + 1 = fewN c t (k + 1)) := hY
        clear e0 e1 hy hY
        go_wp2_with fail
        refine ko.mono ?_
        rintro e wb ⟨rfl, hb⟩
        have HSb : Hid (Solo (w.alloc (.cells (cfC c) 23)) wb g (othV v t) (k + 1)) := hb
        clear ko hb
        go_wp2
        go_roundw
        case rel => exact ⟨k + 1, _, _, by omega, rfl, HY.out, by go_num, HF.out, HSb.out⟩
        case measure => simp [intOf]; omega
      · obtain ⟨E, hE⟩ : ∃ E, E = othE v t := ⟨_, rfl⟩
        rw [← hE] at ko e0
        have hY : y = fewN c t (k + 1) := by rw [e1, hy]
        have HY : Hid (y = fewN c t (k + 1)) := hY
        clear e1 hy hE hY
        go_wp2_with fail
        refine ko.mono ?_
        rintro e wb ⟨rfl, hb⟩
        have HSb : Hid (Solo (w.alloc (.cells (cfC c) 23)) wb g (othV v t) (k + 1)) := hb
        clear ko hb
        go_wp2
        go_roundw
        case rel => exact ⟨k + 1, _, _, by omega, rfl, HY.out, by go_num, HF.out, HSb.out⟩
        case measure => simp [intOf]; omega
    · have hx : x = (k : Int) := by omega
      have H1 : Hid (Cfg w w.heap.size c wr) := H0.out.step hs.low
      have HL2 : Hid ((Instr.loadAt 23 (.pointer (some ⟨w.heap.size, 0, none⟩))).run Try.prog wr = .ok (.agg (cfC c)) wr) := H1.out.own.loads
      have KP := place_ok wr c t
      clear hf hs H0 hk
      cases hp : placeB c t
      · rw [placeV, if_neg (by simp [hp])] at KP
        rw [few_none c t k hp] at hy
        subst hy
        clear hp hx
        go_wp2_with (first | (refine wpList_gload_run rfl 23 _ rfl _ _ rfl HL2.out ?_) | fail)
        refine KP.mono ?_
        rintro e wb ⟨rfl, hb⟩
        have ka := KA.out (wb.alloc (.cells #[.int .i64 0, .int .i64 0, .int .i64 0] 47)) ((H1.out.step hb).bel.alloc (H1.out.step hb).bel.size _)
        clear KP HL2 H1 hb KA
        go_wp2_with fail
        refine ka.mono ?_
        rintro e wd ⟨rfl, hb⟩
        have HB : Hid (Below w.heap.size w wd) := hb
        clear ka hb
        go_wp2
        go_ret
        exact ⟨rfl, HB.out⟩
      · rw [placeV, if_pos hp] at KP
        rw [few_in c t k hp, ← hx] at hy
        have hmin : ∀ W, (Builtin.min_ #[3, 3] 3 #[.int .i64 x, .int .i64 (4 * c.n)]).run Try.prog W = .ok (.int .i64 y) W := fun W => by rw [hy]; exact min2i x (4 * c.n) W
        have wm : IntKind.i64.wrap (4 * c.n) = 4 * c.n := wrap_in (by omega) (by omega)
        clear hp hx hy
        generalize t / rndN c = q1 at *
        generalize t % rndN c / c.s = q2 at *
        generalize t % c.s = q3 at *
        go_wp2_with (first | (refine wpList_gload_run rfl 23 _ rfl _ _ rfl HL2.out ?_) | fail)
        refine KP.mono ?_
        rintro e wb ⟨rfl, hb⟩
        have hb2 := (H1.out.step hb).bel.alloc (H1.out.step hb).bel.size (.cells #[.int .i64 q1, .int .i64 q2, .int .i64 q3] 47)
        have ka := KA.out (wb.alloc (.cells #[.int .i64 q1, .int .i64 q2, .int .i64 q3] 47)) hb2
        have p0 := ((H1.out.step hb).own.alloc (.cells #[.int .i64 q1, .int .i64 q2, .int .i64 q3] 47)).c0
        clear KP HL2 H1 hb KA hb2
        go_wp2_with fail
        refine ka.mono ?_
        rintro e wd ⟨rfl, hb⟩
        have HB : Hid (Below w.heap.size w wd) := hb
        clear ka hb
        go_wp2
        go_ret
        exact ⟨rfl, HB.out⟩
end Go.Proofs.Ytmionehafekokaa
