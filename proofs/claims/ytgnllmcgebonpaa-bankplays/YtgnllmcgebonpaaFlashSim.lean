/-
  The program's flash and the document's, act by act; two of them side by side in memory.
-/
import Derived.Test.YtgnllmcgebonpaaFlashRefWa
import Derived.Test.YtgnllmcgebonpaaFlashRefWb
import Derived.Test.YtgnllmcgebonpaaFlashRefWc
namespace Go.Proofs.Ytgnllmcgebonpaa
open Go.ChangeShapes Go.WideShapes Go.ChangeAt Go.RowKit

theorem rwrite_ok (w : World) (r : Nat) (t : RS) (G : Nat → Prop) (h : RF w r t G) (hn : t.n ≤ 1000000) (a : Int) (x : Option Addr) (cx : Nat) (l : List UInt8) (hx : Sees w x cx l) (hxn : ∀ b off, x = some ⟨b, off, none⟩ → l ≠ [] → ¬ G b) :
    Calls Try.prog 10 #[.pointer (some ⟨r, 0, none⟩), .int .i64 a, .slice x l.length cx] w fun e w' => e = .returned (.int .i64 (rwriteE t a l : Int)) ∧ Left RF w G r (rwriteT t a l) w' := by
  have hll : l.length ≤ 9223372036854775807 := by have := hx.fits; have := hx.room; unfold maxLen at this; omega
  by_cases hc : chk t.dead t.b.length a l.length = 0
  · obtain ⟨hd, ha0, _, hal⟩ := chk_zero hc
    obtain ⟨A, rfl⟩ : ∃ A : Nat, a = (A : Int) := ⟨a.toNat, by omega⟩
    have eT : rwriteT t (A : Int) l = { t with b := putAt t.b A (rcut t l.length) l, skip := max (t.skip - 1) (-1), dead := decide (t.skip = 0), n := t.n + 1 } := by unfold rwriteT; rw [if_neg (by simp [hc])]; rfl
    have eE : rwriteE t (A : Int) l = if t.skip = 0 then 5 else 0 := by unfold rwriteE; rw [if_neg (by simp [hc])]
    rw [eT, eE]
    by_cases hs : t.skip = 0
    · obtain ⟨T, hT⟩ : ∃ T : Nat, t.torn = (T : Int) := ⟨t.torn.toNat, by obtain ⟨v, h1, _⟩ := h; have := h1.t1; omega⟩
      have eD : decide (t.skip = 0) = true := by simp [hs]
      rw [if_pos hs, eD]
      by_cases hTl : T < l.length
      · have eC : rcut t l.length = T := by unfold rcut; rw [if_pos hs, hT]; simp; omega
        rw [eC]
        exact rwrite_short w r t G h hd hn A x cx l hx hxn (by omega) hs T hT hTl
      · have eC : rcut t l.length = l.length := by unfold rcut; rw [if_pos hs, hT]; simp; omega
        rw [eC]
        exact rwrite_long w r t G h hd hn A x cx l hx hxn (by omega) hs T hT (by omega)
    · have eD : decide (t.skip = 0) = false := by simp [hs]
      have eC : rcut t l.length = l.length := by unfold rcut; rw [if_neg hs]
      rw [if_neg hs, eD, eC]
      exact rwrite_plain w r t G h hd hn A x cx l hx hxn (by omega) hs
  · have eT : rwriteT t a l = t := by unfold rwriteT; rw [if_pos hc]
    have eE : rwriteE t a l = chk t.dead t.b.length a l.length := by unfold rwriteE; rw [if_pos hc]
    rw [eT, eE]
    refine (rwrite_refused w r t G h a x cx l hll _ rfl hc).mono ?_
    rintro e w' ⟨rfl, rfl⟩
    exact ⟨rfl, G, h, Apart.refl _ _, fun _ h => .inl h⟩

/-- The two hold the same; a dead one's tear does not matter. -/
structure Sim (s : PS) (t : RS) : Prop where
  b : s.b = t.b
  n : s.n = t.n
  dead : s.dead = t.dead
  tear : s.dead = false → (s.due = true ∧ t.skip = (s.k : Int) ∧ t.torn = (s.m : Int)) ∨ (s.due = false ∧ t.skip = -1)

theorem Sim.chk {s : PS} {t : RS} (h : Sim s t) (a n : Int) : checkE s a n = chk t.dead t.b.length a n := by unfold checkE; rw [h.b, h.dead]; rfl
theorem sim_new (n : Nat) : Sim (newS n) (rnewT n) := ⟨rfl, rfl, rfl, fun _ => .inr ⟨rfl, rfl⟩⟩
theorem Sim.wake {s : PS} {t : RS} (h : Sim s t) : Sim (wakeS s) (rwakeT t) := ⟨h.b, h.n, rfl, fun _ => .inr ⟨rfl, rfl⟩⟩
theorem Sim.torn {s : PS} {t : RS} (h : Sim s t) (k n : Int) : Sim (tearS s k n) (rtearT t k n) := by
  unfold tearS rtearT
  by_cases h0 : 0 ≤ k ∧ 0 ≤ n
  · rw [if_pos h0, if_pos h0]
    exact ⟨h.b, h.n, h.dead, fun _ => .inl ⟨rfl, by simp only []; omega, by simp only []; omega⟩⟩
  · rw [if_neg h0, if_neg h0]
    exact ⟨h.b, h.n, h.dead, fun _ => .inr ⟨rfl, rfl⟩⟩
theorem sim_write {s : PS} {t : RS} (h : Sim s t) (a : Int) (l : List UInt8) : writeE s a l = rwriteE t a l ∧ Sim (writeS s a l) (rwriteT t a l) := by
  have hc := h.chk a l.length
  by_cases h0 : checkE s a l.length = 0
  · have h0' : chk t.dead t.b.length a l.length = 0 := by rw [← hc]; exact h0
    have eE : writeE s a l = if tornB s then 5 else 0 := by unfold writeE; rw [if_neg (by simp [h0])]
    have eS : writeS s a l = { nextS s with b := putAt s.b a.toNat (cutN s l.length) l, n := s.n + 1, dead := s.dead || tornB s } := by unfold writeS; rw [if_neg (by simp [h0])]
    have rE : rwriteE t a l = if t.skip = 0 then 5 else 0 := by unfold rwriteE; rw [if_neg (by simp [h0'])]
    have rT : rwriteT t a l = { t with b := putAt t.b a.toNat (rcut t l.length) l, skip := max (t.skip - 1) (-1), dead := decide (t.skip = 0), n := t.n + 1 } := by unfold rwriteT; rw [if_neg (by simp [h0'])]
    rw [eE, eS, rE, rT]
    have hd := (check_zero h0).1
    rcases h.tear hd with ⟨h1, h2, h3⟩ | ⟨h1, h2⟩
    · by_cases hk : s.k = 0
      · have e1 : tornB s = true := by simp [tornB, h1, hk]
        have e2 : t.skip = 0 := by omega
        have e3 : cutN s l.length = rcut t l.length := by unfold cutN rcut; rw [e1, if_pos rfl, if_pos e2, h3]; simp
        rw [e1, if_pos rfl, if_pos e2, e3, h.b]
        exact ⟨rfl, rfl, by simp only [h.n], by simp [e2], fun hx => by simp at hx⟩
      · have e1 : tornB s = false := by simp [tornB, hk]
        have e2 : ¬ (t.skip = 0) := by omega
        have e3 : cutN s l.length = rcut t l.length := by unfold cutN rcut; rw [e1, if_neg e2]; simp
        rw [e1, if_neg (by simp), if_neg e2, e3, h.b]
        refine ⟨rfl, rfl, by simp only [h.n], by simp [e2, hd], fun _ => .inl ⟨h1, ?_, h3⟩⟩
        simp only [nextS, h1, if_true]
        omega
    · have e1 : tornB s = false := by simp [tornB, h1]
      have e2 : ¬ (t.skip = 0) := by omega
      have e3 : cutN s l.length = rcut t l.length := by unfold cutN rcut; rw [e1, if_neg e2]; simp
      rw [e1, if_neg (by simp), if_neg e2, e3, h.b]
      refine ⟨rfl, rfl, by simp only [h.n], by simp [e2, hd], fun _ => .inr ⟨h1, ?_⟩⟩
      show max (t.skip - 1) (-1) = -1
      omega
  · have h0' : ¬ chk t.dead t.b.length a l.length = 0 := by rw [← hc]; exact h0
    have eE : writeE s a l = checkE s a l.length := by unfold writeE; rw [if_pos h0]
    have eS : writeS s a l = s := by unfold writeS; rw [if_pos h0]
    have rE : rwriteE t a l = chk t.dead t.b.length a l.length := by unfold rwriteE; rw [if_pos h0']
    have rT : rwriteT t a l = t := by unfold rwriteT; rw [if_pos h0']
    rw [eE, eS, rE, rT]
    exact ⟨hc, h⟩
theorem Sim.read {s : PS} {t : RS} (h : Sim s t) (a n : Int) : readL s a n = rreadL t a n := by
  unfold readL rreadL; rw [h.chk a n, h.b]
theorem write_n (s : PS) (a : Int) (l : List UInt8) : (writeS s a l).n ≤ s.n + 1 := by
  unfold writeS; split <;> simp
theorem tear_n (s : PS) (k n : Int) : (tearS s k n).n = s.n := by unfold tearS; split <;> rfl
theorem wake_n (s : PS) : (wakeS s).n = s.n := rfl

/-- Both in memory that w0 has not, apart from each other; w0's own is as it was. -/
def Duo (w0 w : World) (g : Nat) (s : PS) (r : Nat) (t : RS) : Prop := Both PF RF w0.heap.size w g s r t ∧ Below w0.heap.size w0 w
theorem Duo.next {w0 w w' : World} {g : Nat} {s : PS} {r : Nat} {t : RS} (h : Duo w0 w g s r t) (hb : Below w.heap.size w w') : Duo w0 w' g s r t :=
  ⟨h.1.below pf_kept rf_kept hb, h.2.trans (hb.mono h.2.size)⟩
theorem Duo.drew {w0 w : World} {g : Nat} {s : PS} {r : Nat} {t : RS} (h : Duo w0 w g s r t) : Duo w0 w.drew g s r t := h.next (Below.refl _ _).drew

theorem pwrite_duo {w0 w : World} {g : Nat} {s : PS} {r : Nat} {t : RS} (h : Duo w0 w g s r t) (hn : s.n ≤ 1000000) (a : Int) (ha : (Lit.int .i64 a).wf = true) (x : Option Addr) (cx : Nat) (l : List UInt8) (hx : Sees w0 x cx l) :
    Calls Try.prog 9 #[.pointer (some ⟨g, 0, none⟩), .int .i64 a, .slice x l.length cx] w fun e w' => e = .returned (.int .i64 (writeE s a l : Int)) ∧ Duo w0 w' g (writeS s a l) r t := by
  obtain ⟨⟨F, G, h1, h2, h3, h4, h5⟩, hb⟩ := h
  refine (write_ok w g s F h1 hn a ha x cx l (hx.below hb) (fun bb off he hne hf => ?_)).mono ?_
  · have := h4 bb hf; have := sees_lt hx bb off he hne; omega
  · rintro e w' ⟨rfl, hl⟩
    exact ⟨rfl, Both.first rf_kept h2 h3 h4 h5 hb.size hl, hl.below hb h4 hb.size⟩
theorem rwrite_duo {w0 w : World} {g : Nat} {s : PS} {r : Nat} {t : RS} (h : Duo w0 w g s r t) (hn : t.n ≤ 1000000) (a : Int) (x : Option Addr) (cx : Nat) (l : List UInt8) (hx : Sees w0 x cx l) :
    Calls Try.prog 10 #[.pointer (some ⟨r, 0, none⟩), .int .i64 a, .slice x l.length cx] w fun e w' => e = .returned (.int .i64 (rwriteE t a l : Int)) ∧ Duo w0 w' g s r (rwriteT t a l) := by
  obtain ⟨⟨F, G, h1, h2, h3, h4, h5⟩, hb⟩ := h
  refine (rwrite_ok w r t G h2 hn a x cx l (hx.below hb) (fun bb off he hne hf => ?_)).mono ?_
  · have := h5 bb hf; have := sees_lt hx bb off he hne; omega
  · rintro e w' ⟨rfl, hl⟩
    exact ⟨rfl, Both.second pf_kept h1 h3 h4 h5 hb.size hl, hl.below hb h5 hb.size⟩
theorem ptear_duo {w0 w : World} {g : Nat} {s : PS} {r : Nat} {t : RS} (h : Duo w0 w g s r t) (k n : Int) (hk : (Lit.int .i64 k).wf = true) (hn : (Lit.int .i64 n).wf = true) :
    Calls Try.prog 13 #[.pointer (some ⟨g, 0, none⟩), .int .i64 k, .int .i64 n] w fun e w' => (∃ v, e = .returned v) ∧ Duo w0 w' g (tearS s k n) r t := by
  obtain ⟨⟨F, G, h1, h2, h3, h4, h5⟩, hb⟩ := h
  refine (tear_ok w g s F h1 k n hk hn).mono ?_
  rintro e w' ⟨he, hl⟩
  exact ⟨he, Both.first rf_kept h2 h3 h4 h5 hb.size hl, hl.below hb h4 hb.size⟩
theorem rtear_duo {w0 w : World} {g : Nat} {s : PS} {r : Nat} {t : RS} (h : Duo w0 w g s r t) (k n : Int) (hk : (Lit.int .i64 k).wf = true) (hn : (Lit.int .i64 n).wf = true) :
    Calls Try.prog 14 #[.pointer (some ⟨r, 0, none⟩), .int .i64 k, .int .i64 n] w fun e w' => (∃ v, e = .returned v) ∧ Duo w0 w' g s r (rtearT t k n) := by
  obtain ⟨⟨F, G, h1, h2, h3, h4, h5⟩, hb⟩ := h
  refine (rtear_ok w r t G h2 k n hk hn).mono ?_
  rintro e w' ⟨he, hl⟩
  exact ⟨he, Both.second pf_kept h1 h3 h4 h5 hb.size hl, hl.below hb h5 hb.size⟩
theorem pwake_duo {w0 w : World} {g : Nat} {s : PS} {r : Nat} {t : RS} (h : Duo w0 w g s r t) :
    Calls Try.prog 17 #[.pointer (some ⟨g, 0, none⟩)] w fun e w' => (∃ v, e = .returned v) ∧ Duo w0 w' g (wakeS s) r t := by
  obtain ⟨⟨F, G, h1, h2, h3, h4, h5⟩, hb⟩ := h
  refine (wake_ok w g s F h1).mono ?_
  rintro e w' ⟨he, hl⟩
  exact ⟨he, Both.first rf_kept h2 h3 h4 h5 hb.size hl, hl.below hb h4 hb.size⟩
theorem rwake_duo {w0 w : World} {g : Nat} {s : PS} {r : Nat} {t : RS} (h : Duo w0 w g s r t) :
    Calls Try.prog 18 #[.pointer (some ⟨r, 0, none⟩)] w fun e w' => (∃ v, e = .returned v) ∧ Duo w0 w' g s r (rwakeT t) := by
  obtain ⟨⟨F, G, h1, h2, h3, h4, h5⟩, hb⟩ := h
  refine (rwake_ok w r t G h2).mono ?_
  rintro e w' ⟨he, hl⟩
  exact ⟨he, Both.second pf_kept h1 h3 h4 h5 hb.size hl, hl.below hb h5 hb.size⟩
theorem pread_duo {w0 w : World} {g : Nat} {s : PS} {r : Nat} {t : RS} (h : Duo w0 w g s r t) (a n : Int) (ha : (Lit.int .i64 a).wf = true) (R : List UInt8) (E : Nat) (hR : R = readL s a n) (hE : E = checkE s a n) :
    Calls Try.prog 30 #[.pointer (some ⟨g, 0, none⟩), .int .i64 a, .int .i64 n] w fun e w' => ∃ d cd, e = .returned (.tuple #[.slice d R.length cd, .int .i64 (E : Int)]) ∧ Sees w' d cd R ∧ Below w.heap.size w w' := by
  obtain ⟨⟨F, G, h1, _⟩, _⟩ := h
  refine (read_ok w g s F h1 a n ha).mono ?_
  rintro e w' ⟨d, cd, r', E', hr', hE', rfl, hs, hb⟩
  have e1 : r' = R := by rw [hr'.out, hR]
  have e2 : E' = E := by rw [hE'.out, hE]
  subst e1 e2
  exact ⟨d, cd, rfl, hs, hb⟩
theorem rread_duo {w0 w : World} {g : Nat} {s : PS} {r : Nat} {t : RS} (h : Duo w0 w g s r t) (a n : Int) (R : List UInt8) (E : Nat) (hR : R = rreadL t a n) (hE : E = chk t.dead t.b.length a n) :
    Calls Try.prog 37 #[.pointer (some ⟨r, 0, none⟩), .int .i64 a, .int .i64 n] w fun e w' => ∃ d cd, e = .returned (.tuple #[.slice d R.length cd, .int .i64 (E : Int)]) ∧ Sees w' d cd R ∧ Below w.heap.size w w' := by
  obtain ⟨⟨F, G, _, h2, _⟩, _⟩ := h
  exact rread_ok w r t G h2 a n R E hR hE
theorem len_duo {w0 w : World} {g : Nat} {s : PS} {r : Nat} {t : RS} (h : Duo w0 w g s r t) : Calls Try.prog 31 #[.pointer (some ⟨g, 0, none⟩)] w fun e w' => e = .returned (.int .i64 (s.b.length : Int)) ∧ w' = w := by
  obtain ⟨⟨F, G, ⟨q, cap, cur, h1, _⟩, _⟩, _⟩ := h; exact len_ok w g s q cap cur h1
theorem new_duo (w : World) (n : Nat) (hn : n ≤ 4096) : Calls Try.prog 6 #[.int .i64 (n : Int)] w fun e w' => ∃ g, e = .returned (.tuple #[.pointer (some ⟨g, 0, none⟩), .int .i64 0]) ∧ Held w w' g (newS n) := new_held w n hn
theorem rnew_duo {w0 w : World} {g : Nat} {s : PS} (h : Held w0 w g s) (n : Nat) (hn : n ≤ 4096) : Calls Try.prog 7 #[.int .i64 (n : Int)] w fun e w' => ∃ r, e = .returned (.tuple #[.pointer (some ⟨r, 0, none⟩), .int .i64 0]) ∧ Duo w0 w' g s r (rnewT n) := by
  obtain ⟨F, h1, h2, h3⟩ := h
  refine (rnew_ok w n hn).mono ?_
  rintro e w' ⟨r, G, rfl, k1, k2, k3⟩
  have hsz := h3.size
  refine ⟨r, rfl, ⟨F, G, pf_kept.below h1 k3, k1, fun k hk hg => ?_, h2, fun k hk => Nat.le_trans hsz (k2 k hk)⟩, h3.trans (k3.mono hsz)⟩
  have := k2 k hg; have := pf_kept.lt h1 k hk; omega
/-- The document's fields, and its bytes. -/
theorem Duo.ref {w0 w : World} {g : Nat} {s : PS} {r : Nat} {t : RS} (h : Duo w0 w g s r t) :
    ∃ a cap, w.cell? ⟨r, 0, none⟩ = some (.slice a t.b.length cap) ∧ Sees w a cap t.b ∧ w.cell? ⟨r, 3, none⟩ = some (.bool t.dead) ∧ w.cell? ⟨r, 4, none⟩ = some (.int .i64 (t.n : Int)) ∧ t.b.length ≤ 4096 := by
  obtain ⟨⟨F, G, _, ⟨v, h2, _⟩, _⟩, _⟩ := h
  obtain ⟨a, cap, rfl, hs⟩ := h2.sees
  exact ⟨a, cap, h2.c0, hs, h2.c3, h2.c4, h2.small⟩
end Go.Proofs.Ytgnllmcgebonpaa
