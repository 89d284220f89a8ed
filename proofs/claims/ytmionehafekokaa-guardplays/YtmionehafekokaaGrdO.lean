/-
  The contract of Other.
-/
import Derived.Test.YtmionehafekokaaGrdH
namespace Go.Proofs.Ytmionehafekokaa
open Go.ChangeShapes Go.WideShapes Go.ChangeAt Go.RowKit

/-- What Other leaves. -/
def Passed (w : World) (g m : Nat) (s : Value) (v : Gs) (n : Nat) (w' : World) : Prop :=
  ∃ s' rs', Gd w' g m s' v rs' n ∧ (∀ k, s'.ownBlock = some k → s.ownBlock = some k ∨ w.heap.size ≤ k) ∧ Apart (Own g m s) w w'
theorem MapAt.mono {w : World} {m n : Nat} {os : List Int} (h : MapAt w m n os) {n' : Nat} (hn : n ≤ n') : MapAt w m n' os := by
  obtain ⟨D, h1, h2⟩ := h
  exact ⟨D, h1.mono hn, h2⟩
theorem Gd.mono {w : World} {g m : Nat} {s : Value} {v : Gs} {rs : List Int} {n : Nat} (h : Gd w g m s v rs n) {n' : Nat} (hn : n ≤ n') : Gd w g m s v rs n' :=
  ⟨h.at', h.map.mono hn, h.row, h.tie, Nat.le_trans h.len hn⟩
theorem Gd.passed {w w' : World} {g m : Nat} {s : Value} {v : Gs} {rs : List Int} {n : Nat} (h : Gd w' g m s v rs n) (hb : Below w.heap.size w w') : Passed w g m s v (n + 1) w' :=
  ⟨s, rs, h.mono (Nat.le_succ _), fun _ hk => .inl hk, Apart.of_below hb⟩
theorem count_keep (os : List Int) (x l : Int) (h : l ≤ x) : (keepL os l).count x = os.count x := by
  unfold keepL
  rw [List.count_filter (by simpa using h)]
/-- drop, then count. -/
theorem passed_both {w W w2 w3 : World} {g m : Nat} {s s' : Value} {v : Gs} {n : Nat} {l x : Int} (hW : Below w.heap.size w W) (h2 : Apart (fun k => k = g ∨ k = m) W w2) (hs : s'.ownBlock = s.ownBlock) (h3 : Counted w2 g m s' { v with os := keepL v.os l } x n w3) :
    Passed w g m s { v with os := keepL v.os l ++ [x] } (n + 1) w3 := by
  obtain ⟨s'', rs'', h4, h5, h6⟩ := h3
  have hle : w.heap.size ≤ w2.heap.size := Nat.le_trans hW.size h2.size
  refine ⟨s'', rs'', h4, fun k hk => ?_, ?_⟩
  · rcases h5 k hk with h | h
    · exact .inl (hs ▸ h)
    · exact .inr (Nat.le_trans hle h)
  · have a1 : Apart (Own g m s) w w2 := (Apart.of_below (F := Own g m s) hW).trans h2 fun i hi => .inl (by
      rcases hi with h | h
      · exact .inl h
      · exact .inr (.inl h))
    exact a1.trans h6 fun i hi => .inl (by
      rcases hi with h | h | h
      · exact .inl h
      · exact .inr (.inl h)
      · exact .inr (.inr (hs ▸ h)))

set_option maxHeartbeats 1600000 in
set_option maxRecDepth 20000 in
theorem other_ok (w : World) (g m : Nat) (s : Value) (v : Gs) (rs : List Int) (n : Nat) (h : Gd w g m s v rs n) (hv : v.ok) (hn : n ≤ 999) (t : Int) :
    Calls Try.prog 12 #[.pointer (some ⟨g, 0, none⟩), .int .i64 t] w fun e w' => e = .returned (.int .i64 (othE v t)) ∧ Passed w g m s (othV v t) (n + 1) w' := by
  have KM := made_ok w g m h.at'.others
  have KP := place_ok w v.c t
  obtain ⟨c0, c1, c2, c3, c4, c5, c6, c7, c8, c9⟩ := h.at'.cfg
  have HG : Hid (Gd w g m s v rs n) := h
  have HE : Hid (othV v t = (if othE v t = 0 then { v with os := keepL v.os (rdN v.c t - 64) ++ [rdN v.c t] } else v)) := rfl
  clear h
  by_cases hp : placeB v.c t = true
  case neg =>
    have e0 : othE v t = 1 := by rw [othE, if_neg hp]
    have e2 : othV v t = v := by rw [HE.out, e0]; rfl
    rw [e0, e2]
    rw [placeV, if_neg hp] at KP
    clear hp HE e0 e2 hv hn
    go_enter Try.func12, Try.ntmps12
    go_wp2_with fail
    refine KM.mono ?_
    rintro e w ⟨rfl, rfl⟩
    clear KM
    go_wp2_with fail
    refine KP.mono ?_
    rintro e w1 ⟨rfl, hb⟩
    clear KP c0 c1 c2 c3 c4 c5 c6 c7 c8 c9
    obtain ⟨h1, h2, h3, h4⟩ := HG.out.placed hb 0 0 0
    have HF : Hid (Passed w g m s v (n + 1) (w1.alloc (.cells #[.int .i64 0, .int .i64 0, .int .i64 0] 47))) := h1.passed h3
    clear hb h1 h2 h3 h4 HG
    go_wp2
    go_ret
    exact ⟨rfl, HF.out⟩
  rw [placeV, if_pos hp] at KP
  have HD1 : othE v t = (if 4 * v.c.n ≤ (v.os.count (rdN v.c t) : Int) then 9 else 0) := by rw [othE, if_pos hp]
  have HD : Hid (othE v t = (if 4 * v.c.n ≤ (v.os.count (rdN v.c t) : Int) then 9 else 0)) := HD1
  obtain ⟨r0, r1, ho⟩ := rd_in hp
  have n0 := (right_of ho).n0
  have n1 := (right_of ho).n1
  have HA : Hid (inL v.os) := hv.all
  clear hp HD1 ho hv
  change Calls Try.prog 17 _ _ (fun e w' => e = .returned (.tuple #[.agg #[.int .i64 (rdN v.c t), .int .i64 (slN v.c t), .int .i64 (t % v.c.s)], .int .i64 0]) ∧ Below w.heap.size w w') at KP
  generalize t % v.c.s = O at *
  go_enter Try.func12, Try.ntmps12
  go_wp2_with fail
  refine KM.mono ?_
  rintro e w ⟨rfl, rfl⟩
  clear KM
  go_wp2_with fail
  refine KP.mono ?_
  rintro e w1 ⟨rfl, hb⟩
  clear KP c0 c1 c2 c3 c4 c5 c6 c7 c8 c9
  obtain ⟨h1, h2, h3, h4⟩ := HG.out.placed hb (rdN v.c t) (slN v.c t) O
  have hml := HG.out.map.lt
  have c00 := h1.at'.cfg.1
  have c13 := h1.at'.others
  have t0 := h2.c0
  have hlook := h1.drew.map.look (inI_wf (x := rdN v.c t) (by omega) (by omega))
  have HF : Hid (Gd (w1.alloc (.cells #[.int .i64 (rdN v.c t), .int .i64 (slN v.c t), .int .i64 O] 47)) g m s v rs n ∧ Below w.heap.size w (w1.alloc (.cells #[.int .i64 (rdN v.c t), .int .i64 (slN v.c t), .int .i64 O] 47)) ∧ Tri (w1.alloc (.cells #[.int .i64 (rdN v.c t), .int .i64 (slN v.c t), .int .i64 O] 47)) w1.heap.size (rdN v.c t) (slN v.c t) O ∧ w1.heap.size ≠ g ∧ w1.heap.size ≠ m) :=
    ⟨h1, h3, h2, by omega, by have := hb.size; omega⟩
  clear hb h1 h2 h3 h4 HG hml
  go_upto_region 6 with fail
  obtain ⟨W, hW⟩ : ∃ W, W = w1.alloc (.cells #[.int .i64 (rdN v.c t), .int .i64 (slN v.c t), .int .i64 O] 47) := ⟨_, rfl⟩
  rw [← hW] at HF c00 c13 t0 hlook ⊢
  generalize w1.heap.size = b at *
  clear hW w1
  generalize hR : rdN v.c t = R at *
  generalize slN v.c t = S at *
  have m1 : IntKind.i64.wrap (4 * v.c.n) = 4 * v.c.n := wrap_in (by omega) (by omega)
  obtain ⟨C, hC⟩ : ∃ C : Int, C = (v.os.count R : Int) := ⟨_, rfl⟩
  rw [← hC] at hlook HD
  by_cases hf : 4 * v.c.n ≤ C
  · have e0 : othE v t = 9 := by rw [HD.out, if_pos hf]
    have e2 : othV v t = v := by rw [HE.out, e0]; rfl
    have HP : Hid (othE v t = 9 ∧ othV v t = v) := ⟨e0, e2⟩
    clear HD HE e0 e2 hC HA
    go_big_region
    go_wp2
    go_ret
    rw [HP.out.1, HP.out.2]
    exact ⟨rfl, HF.out.1.drew.passed HF.out.2.1.drew⟩
  have e0 : othE v t = 0 := by rw [HD.out, if_neg hf]
  have e2 : othV v t = { v with os := keepL v.os (R - 64) ++ [R] } := by rw [HE.out, e0]; rfl
  have HP : Hid (othE v t = 0 ∧ othV v t = { v with os := keepL v.os (R - 64) ++ [R] }) := ⟨e0, e2⟩
  have hct : v.os.count R ≤ 100 := by omega
  have HCt : Hid (v.os.count R ≤ 100) := hct
  clear hct
  have KD := drop_ok W.drew g m s v rs n HF.out.1.drew HA.out (R - 64)
  have m2 : IntKind.i64.wrap (R - 64) = R - 64 := wrap_in (by omega) (by omega)
  clear HD HE e0 e2 hC
  go_big_region
  go_wp2_with fail
  refine KD.mono ?_
  rintro e w2 ⟨rfl, hd⟩
  clear KD hlook c00 c13 t0
  obtain ⟨s', rs', g1, g2, g3⟩ := hd
  have t0 : w2.cell? ⟨b, 0, none⟩ = some (.int .i64 R) := g3.cell (a := ⟨b, 0, none⟩) HF.out.2.2.1.c0 (fun e => by
    rcases e with e | e
    · exact HF.out.2.2.2.1 e
    · exact HF.out.2.2.2.2 e)
  have KC := count_ok w2 g m s' { v with os := keepL v.os (R - 64) } rs' n g1 hn R r0 r1 (by
    have := HCt.out
    show (keepL v.os (R - 64)).count R ≤ 100
    rw [count_keep _ _ _ (by omega)]; exact this)
  have HQ : Hid (s'.ownBlock = s.ownBlock ∧ Apart (fun k => k = g ∨ k = m) W.drew w2) := ⟨g2, g3⟩
  clear g1 g2 g3
  go_wp2_with fail
  refine KC.mono ?_
  rintro e w3 ⟨rfl, h3⟩
  have HZ : Hid (Passed w g m s { v with os := keepL v.os (R - 64) ++ [R] } (n + 1) w3) := passed_both HF.out.2.1.drew HQ.out.2 HQ.out.1 h3
  clear KC h3 t0
  go_wp2
  go_ret
  rw [HP.out.1, HP.out.2]
  exact ⟨rfl, HZ.out⟩
end Go.Proofs.Ytmionehafekokaa
