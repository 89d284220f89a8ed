/-
  The contract of same; a buffer beside a list of bytes.
-/
import Derived.Test.YteehkekmaikeiaaBufX
namespace Go.Proofs.Yteehkekmaikeiaa
open Go.ChangeShapes Go.WideShapes Go.ChangeAt Go.RowKit

/-- The slice v reads as the lists of bytes L. -/
def Lst (w : World) (v : Value) (L : List (List UInt8)) : Prop := ∃ os, Row E22 w v os ∧ SeenB w os ∧ os.map Prod.fst = L
theorem SeenB.below {w w' : World} {os : List Bl} (h : SeenB w os) (hb : Below w.heap.size w w') : SeenB w' os := fun x hx => (h x hx).below hb
theorem SeenB.apart {w w' : World} {F : Nat → Prop} {os : List Bl} (h : SeenB w os) (ha : Apart F w w') (hp : ∀ k, F k → Plain w k) : SeenB w' os := fun x hx => (h x hx).apart ha hp
theorem Lst.below {w w' : World} {v : Value} {L : List (List UInt8)} (h : Lst w v L) (hb : Below w.heap.size w w') : Lst w' v L := by
  obtain ⟨os, h1, h2, h3⟩ := h
  exact ⟨os, h1.below hb, h2.below hb, h3⟩
theorem Told.lst {w : World} {B : Nat} {v : Value} {L : List (List UInt8)} (h : Told w B v L) : Lst w v L := by
  obtain ⟨os, h1, h2, h3, _⟩ := h
  exact ⟨os, h1, h2, h3⟩
theorem Lst.shape {w : World} {v : Value} {L : List (List UInt8)} (h : Lst w v L) : ∃ a c, v = .slice a L.length c ∧ L.length ≤ c ∧ c ≤ maxLen := by
  obtain ⟨os, h1, _, h3⟩ := h
  obtain ⟨a, c, rfl, h4, h5, _⟩ := h1.shape
  have e : os.length = L.length := by have := congrArg List.length h3; simpa using this
  rw [e] at h4 ⊢
  exact ⟨a, c, rfl, h4, h5⟩
/-- One of them. -/
theorem Lst.get {w : World} {a : Option Addr} {len c : Nat} {L : List (List UInt8)} (h : Lst w (.slice a len c) L) {t : Nat} {l : List UInt8} (hl : L[t]? = some l) :
    ∃ q oa oc, a = some ⟨q, 0, none⟩ ∧ w.cell? ⟨q, t, none⟩ = some (.slice oa l.length oc) ∧ Sees w oa oc l := by
  obtain ⟨os, h1, h2, rfl⟩ := h
  rw [List.getElem?_map] at hl
  obtain ⟨o, ho, rfl⟩ := Option.map_eq_some_iff.1 hl
  obtain ⟨-, q, rfl, hcell⟩ := h1.get ho
  have x0 := hcell 0 _ rfl
  rw [show E22.n = 1 from rfl, Nat.mul_one, Nat.add_zero] at x0
  exact ⟨q, o.2.1, o.2.2, rfl, x0, h2 o (List.mem_of_getElem? ho)⟩
theorem Row.take {α : Type} {E : Enc α} {w : World} {a : Option Addr} {len cap : Nat} {xs : List α} (h : Row E w (.slice a len cap) xs) {k : Nat} (hk : k ≤ xs.length) : Row E w (.slice a k cap) (xs.take k) := by
  rcases h with ⟨e, rfl⟩ | ⟨q, cap', cur, e, h1, h2, h3, h4, h5, h6⟩
  · cases e
    have : k = 0 := by simpa using hk
    subst this
    exact .inl ⟨rfl, rfl⟩
  · cases e
    have hl : (xs.take k).length = k := by rw [List.length_take, Nat.min_eq_left hk]
    refine .inr ⟨q, cap, cur, by rw [hl], h1, by rw [hl]; omega, h3, h4, ?_, h6⟩
    rw [hl, ← E.cs_take xs k hk, ← h5, List.take_take, Nat.min_eq_left (Nat.mul_le_mul_right _ hk)]
theorem Lst.take {w : World} {a : Option Addr} {len c : Nat} {L : List (List UInt8)} (h : Lst w (.slice a len c) L) {k : Nat} (hk : k ≤ L.length) : Lst w (.slice a k c) (L.take k) := by
  obtain ⟨os, h1, h2, rfl⟩ := h
  rw [List.length_map] at hk
  exact ⟨os.take k, h1.take hk, fun x hx => h2 x (List.mem_of_mem_take hx), by rw [List.map_take]⟩

set_option maxHeartbeats 1600000 in
set_option maxRecDepth 20000 in
theorem lists_same (w : World) (u v : Value) (L M : List (List UInt8)) (hu : Lst w u L) (hv : Lst w v M) (hl : L.length ≤ 1000) :
    Calls Try.prog 12 #[u, v] w fun e w' => e = .returned (.bool (decide (L = M))) ∧ Below w.heap.size w w' := by
  obtain ⟨a, ca, rfl, ha1, ha2⟩ := hu.shape
  obtain ⟨b, cb, rfl, hb1, hb2⟩ := hv.shape
  by_cases hlen : L.length = M.length
  · have HU : Hid (∀ W, Below w.heap.size w W → Lst W (.slice a L.length ca) L ∧ Lst W (.slice b L.length cb) M) := fun W hb => ⟨hu.below hb, by rw [hlen]; exact hv.below hb⟩
    rw [← hlen]
    have HL : Hid (L.length = M.length) := hlen
    obtain ⟨N, hN⟩ : ∃ N, N = L.length := ⟨_, rfl⟩
    have HN : Hid (N = L.length) := hN
    rw [← hN] at HU hl ⊢
    clear hu hv ha1 ha2 hb1 hb2 hlen hN
    go_enter Try.func12, Try.ntmps12
    go_wp2
    go_loopw [5] (fun s5 wr => ∃ t : Nat, s5 = .int .i64 (t : Int) ∧ t ≤ N ∧ L.take t = M.take t ∧ Below w.heap.size w wr) (fun s5 _ => N - (intOf s5).toNat)
    case atStart => exact ⟨0, rfl, Nat.zero_le _, rfl, Below.refl _ _⟩
    case round =>
      obtain ⟨t, rfl, ht, heq, hbel⟩ := hrel
      by_cases hlt : t < N
      · have hL := HN.out
        have hLM := HL.out
        obtain ⟨l, hl1⟩ : ∃ l, L[t]? = some l := ⟨L[t]'(by omega), by rw [List.getElem?_eq_getElem]⟩
        obtain ⟨r, hr1⟩ : ∃ r, M[t]? = some r := ⟨M[t]'(by omega), by rw [List.getElem?_eq_getElem]⟩
        obtain ⟨h1, h2⟩ := HU.out wr hbel
        obtain ⟨q, oa, oc, rfl, x0, s0⟩ := h1.get hl1
        obtain ⟨p, pa, pc, rfl, y0, t0⟩ := h2.get hr1
        have u1 : (Go.convert 22 9 (.slice oa l.length oc)).run Try.prog wr.drew = .ok (.string ⟨l.toArray⟩) wr.drew := (s0.drewN 1).convert (P := Try.prog) 22 5 9 Try.underlying22 Try.underlying5 Try.underlying9
        have u2 : (Go.convert 22 9 (.slice pa r.length pc)).run Try.prog wr.drew = .ok (.string ⟨r.toArray⟩) wr.drew := (t0.drewN 1).convert (P := Try.prog) 22 5 9 Try.underlying22 Try.underlying5 Try.underlying9
        have HB : Hid (Below w.heap.size w wr.drew) := hbel.drew
        have g1 : (t : Int) < (N : Int) := by omega
        have g2 : (0 : Int) ≤ (t : Int) := Int.natCast_nonneg _
        have e4 : IntKind.i64.wrap ((t : Int) + 1) = ((t + 1 : Nat) : Int) := by rw [IntKind.wrap_i64]; omega
        have HJ : Hid (t < N) := hlt
        have HT : Hid (L.take t = M.take t ∧ L[t]? = some l ∧ M[t]? = some r) := ⟨heq, hl1, hr1⟩
        by_cases hlr : l = r
        · subst hlr
          have HE : Hid (L.take (t + 1) = M.take (t + 1)) := by
            show L.take (t + 1) = M.take (t + 1)
            rw [take_snoc L t l hl1, take_snoc M t l hr1, heq]
          clear hL hLM hl1 hr1 h1 h2 s0 t0 hbel heq ht hlt
          go_wp2_with fail
          go_region
          go_wp2
          go_roundw
          case rel => exact ⟨t + 1, by first | rfl | (congr 1; omega), by have := HJ.out; omega, HE.out, HB.out⟩
          case measure => have := HJ.out; simp [intOf]; omega
        · have hne : (l == r) = false := by simpa using hlr
          have HE : Hid (L ≠ M) := fun e => hlr (by subst e; rw [hl1] at hr1; exact Option.some.inj hr1)
          clear hL hLM hl1 hr1 h1 h2 s0 t0 hbel heq ht hlt hlr
          go_wp2_with fail
          go_region
          go_wp2
          go_ret
          exact ⟨by rw [decide_eq_false HE.out]; rfl, HB.out⟩
      · have HE : Hid (L = M) := by
          have h1 := HN.out
          have h2 := HL.out
          rw [List.take_of_length_le (by omega), List.take_of_length_le (by omega)] at heq
          exact heq
        have g1 : ¬ (t : Int) < (N : Int) := by omega
        have HB : Hid (Below w.heap.size w wr) := hbel
        clear hbel heq ht hlt
        go_wp2
        go_ret
        exact ⟨by rw [decide_eq_true HE.out]; rfl, HB.out⟩
  · have g1 : ¬ ((L.length : Int) = (M.length : Int)) := by omega
    have HE : Hid (L ≠ M) := fun e => hlen (by rw [e])
    clear hu hv ha1 ha2 hb1 hb2 hlen
    generalize L.length = n1 at *
    generalize M.length = n2 at *
    go_enter Try.func12, Try.ntmps12
    go_wp2
    go_ret
    exact ⟨by rw [decide_eq_false HE.out]; rfl, Below.refl _ _⟩

/-- A buffer, and a list of bytes of the law's own beside it. -/
structure Beside (w0 w : World) (g : Nat) (s : Bs) (n : Nat) (vw : Value) (ws : List Bl) (m : Nat) (v : Value) (ss : List Sl) : Prop where
  pb : Pb w g m v s ss n
  bel : Below w0.heap.size w0 w
  own : ∀ k, Own g m v k → w0.heap.size ≤ k
  row : Row E22 w vw ws
  seen : SeenB w ws
  new : ∀ k, vw.ownBlock = some k → w0.heap.size ≤ k
  apart : ∀ k, vw.ownBlock = some k → ¬ Own g m v k
theorem Beside.left {w0 w w' : World} {g : Nat} {s s' : Bs} {n n' : Nat} {vw : Value} {ws : List Bl} {m : Nat} {v : Value} {ss : List Sl} (h : Beside w0 w g s n vw ws m v ss) (hl : PLeft w g m v s' n' w') : ∃ v' ss', Beside w0 w' g s' n' vw ws m v' ss' := by
  obtain ⟨v', ss', h1, h2, h3⟩ := hl
  refine ⟨v', ss', h1, h2.below h.bel h.own h.bel.size, fun k hk => ?_, h.row.apart h2 h.apart, h.seen.apart h2 fun k hk => h.pb.plain hk, h.new, fun k hk ho => ?_⟩
  · rcases hk with rfl | rfl | hk
    · exact h.own _ (.inl rfl)
    · exact h.own _ (.inr (.inl rfl))
    · rcases h3 k hk with h4 | h4
      · exact h.own k (.inr (.inr h4))
      · exact Nat.le_trans h.bel.size h4
  · have hlt := h.row.lt hk
    rcases ho with rfl | rfl | ho
    · exact h.apart _ hk (.inl rfl)
    · exact h.apart _ hk (.inr (.inl rfl))
    · rcases h3 k ho with h4 | h4
      · exact h.apart k hk (.inr (.inr h4))
      · omega
theorem Beside.below {w0 w w' : World} {g : Nat} {s : Bs} {n : Nat} {vw : Value} {ws : List Bl} {m : Nat} {v : Value} {ss : List Sl} (h : Beside w0 w g s n vw ws m v ss) (hb : Below w.heap.size w w') : Beside w0 w' g s n vw ws m v ss :=
  ⟨h.pb.below hb, h.bel.trans (hb.mono h.bel.size), h.own, h.row.below hb, h.seen.below hb, h.new, h.apart⟩
theorem Beside.mono {w0 w : World} {g : Nat} {s : Bs} {n n' : Nat} {vw : Value} {ws : List Bl} {m : Nat} {v : Value} {ss : List Sl} (h : Beside w0 w g s n vw ws m v ss) (hn : n ≤ n') : Beside w0 w g s n' vw ws m v ss :=
  ⟨h.pb.mono hn, h.bel, h.own, h.row, h.seen, h.new, h.apart⟩
/-- The list grows. -/
theorem Beside.more {w0 w w' : World} {g : Nat} {s : Bs} {n : Nat} {vw vw' : Value} {ws ws' : List Bl} {m : Nat} {v : Value} {ss : List Sl} (h : Beside w0 w g s n vw ws m v ss) (hr : Row E22 w' vw' ws') (hs : SeenB w ws') (ha : Apart (fun k => vw.ownBlock = some k) w w') (hn : ∀ k, vw'.ownBlock = some k → vw.ownBlock = some k ∨ w.heap.size ≤ k) : Beside w0 w' g s n vw' ws' m v ss := by
  refine ⟨h.pb.apart ha h.apart (fun k hk => h.row.plain hk), ha.below h.bel h.new h.bel.size, h.own, hr, hs.apart ha fun k hk => h.row.plain hk, fun k hk => ?_, fun k hk ho => ?_⟩
  · rcases hn k hk with e | e
    · exact h.new k e
    · exact Nat.le_trans h.bel.size e
  · rcases hn k hk with e | e
    · exact h.apart k e ho
    · have := h.pb.lt ho; omega
end Go.Proofs.Yteehkekmaikeiaa
