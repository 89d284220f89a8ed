/-
  A receiver in memory, the program's and the document's, each with its buffer.
  What is told of a receiver; is it a key; refusals and their numbers.
  Lists of frames in memory.
-/
import Derived.Test.YtmffplhaclnehaaGreatDoorTesM
import Derived.Test.YtmffplhaclnehaaGreatDoorBufR
import Derived.Test.YtmffplhaclnehaaGreatDoorBRefA
import Derived.Test.YtmffplhaclnehaaGreatDoorPureB
import Derived.Deep.DeepCutAuto
import Derived.Test.YtmffplhaclnehaaGreatDoorSchedA
import Derived.Test.YtmffplhaclnehaaGreatDoorAsErr
import Derived.Deep.MidRow
namespace Go.Proofs.YtmffplhaclnehaaGreatDoor
open Go.ChangeShapes Go.WideShapes Go.ChangeAt Go.RowKit
set_option maxRecDepth 20000
def pcL (s : Rv) (ka : Option Addr) (kc g : Nat) : List Value :=
  [.int .i64 s.c.n, .int .i64 s.c.f, .int .i64 s.c.s, .int .i64 s.c.d, .int .i64 s.c.k, .int .i64 s.c.e, .int .i64 s.c.v, .int .i64 s.c.r, .int .i64 s.c.l, .int .i64 s.c.p,
    .int .i64 s.me, .int .i64 s.ep, .int .i64 s.st, .int .i64 s.ix, .slice ka s.key.length kc, .int .i64 s.last, .pointer (some ⟨g, 0, none⟩)]
def dcL (s : Rv) (ka : Option Addr) (kc g : Nat) : List Value :=
  [.int .i64 s.c.n, .int .i64 s.c.f, .int .i64 s.c.s, .int .i64 s.c.d, .int .i64 s.c.k, .int .i64 s.c.e, .int .i64 s.c.v, .int .i64 s.c.r, .int .i64 s.c.l, .int .i64 s.c.p,
    .int .i64 s.me, .int .i64 s.ep, .int .i64 s.st, .int .i64 s.ix, .slice ka s.key.length kc, .pointer (some ⟨g, 0, none⟩), .int .i64 s.last]
def PAt (w : World) (R : Nat) (s : Rv) (ka : Option Addr) (kc g : Nat) : Prop := w.heap[R]? = some (.cells (pcL s ka kc g).toArray 76 (0, 0))
def DAt (w : World) (R : Nat) (s : Rv) (ka : Option Addr) (kc g : Nat) : Prop := w.heap[R]? = some (.cells (dcL s ka kc g).toArray 50 (0, 0))
theorem PAt.cell {w : World} {R : Nat} {s : Rv} {ka : Option Addr} {kc g : Nat} (h : PAt w R s ka kc g) (i : Nat) {u : Value} (hu : (pcL s ka kc g)[i]? = some u) : w.cell? ⟨R, i, none⟩ = some u := by
  rw [cell_of_row w _ i _ _ _ h]; simpa using hu
theorem PAt.fz {w : World} {R : Nat} {s : Rv} {ka : Option Addr} {kc g : Nat} (h : PAt w R s ka kc g) (i : Nat) : w.frozen? ⟨R, i, none⟩ = false := frozen_of_row _ _ i _ _ h
theorem PAt.lt {w : World} {R : Nat} {s : Rv} {ka : Option Addr} {kc g : Nat} (h : PAt w R s ka kc g) : R < w.heap.size := (Array.getElem?_eq_some_iff.1 h).1
theorem PAt.put {w : World} {R : Nat} {s t : Rv} {ka kb : Option Addr} {kc kd g : Nat} (h : PAt w R s ka kc g) (i : Nat) (u : Value) (hl : (pcL s ka kc g).set i u = pcL t kb kd g) : PAt (w.setCell ⟨R, i, none⟩ u) R t kb kd g := by
  show (w.setCell ⟨R, i, none⟩ u).heap[R]? = _
  rw [heap_setCell_same _ _ _ _ _ _ h]
  congr 2
  rw [List.setIfInBounds_toArray, hl]
theorem pcL_nob (s : Rv) (ka : Option Addr) (kc g : Nat) : NoByte (pcL s ka kc g).toArray := by
  intro u hu k y
  simp only [pcL, List.mem_cons, List.not_mem_nil, or_false] at hu
  rcases hu with rfl | rfl | rfl | rfl | rfl | rfl | rfl | rfl | rfl | rfl | rfl | rfl | rfl | rfl | rfl | rfl | rfl <;> intro e <;> cases e <;> rfl
theorem PAt.plain {w : World} {R : Nat} {s : Rv} {ka : Option Addr} {kc g : Nat} (h : PAt w R s ka kc g) : Plain w R := (pcL_nob s ka kc g).plain h
theorem PAt.loads {w : World} {R : Nat} {s : Rv} {ka : Option Addr} {kc g : Nat} (h : PAt w R s ka kc g) : (Instr.loadAt 23 (.pointer (some ⟨R, 0, none⟩))).run Tryz.prog w = .ok (.agg (cfC s.c)) w :=
  run_loadAt_mid w R 0 23 (cfL s.c) _ (fun j v hv => by
    rw [Nat.zero_add]
    refine h.cell j ?_
    have hj : j < 10 := (List.getElem?_eq_some_iff.1 hv).1
    show (cfL s.c ++ _)[j]? = some v
    rw [List.getElem?_append_left hj]; exact hv) Tryz.underlying23 rfl (by kernel_rfl)
def POwn (R g m : Nat) (v : Value) : Nat → Prop := fun k => k = R ∨ Own g m v k
def DOwn (R r : Nat) (v : Value) : Nat → Prop := fun k => k = R ∨ ROwn r v k
structure PAll (w : World) (R : Nat) (s : Rv) (n : Nat) (g m : Nat) (v : Value) (ka : Option Addr) (kc : Nat) (ss : List BSl) : Prop where
  at' : PAt w R s ka kc g
  key : Sees w ka kc s.key
  buf : Pb w g m v s.b ss n
structure DAll (w : World) (R : Nat) (s : Rv) (r : Nat) (v : Value) (ka : Option Addr) (kc : Nat) (ss : List BSl) : Prop where
  at' : DAt w R s ka kc r
  key : Sees w ka kc s.key
  buf : BRb w r v s.b ss
def PM (w : World) (R : Nat) (q : Rv × Nat) (F : Nat → Prop) : Prop := ∃ g m v ka kc ss, PAll w R q.1 q.2 g m v ka kc ss ∧ q.1.ok ∧ (∀ k, POwn R g m v k → 3 ≤ k) ∧ F = POwn R g m v
def DM (w : World) (R : Nat) (s : Rv) (F : Nat → Prop) : Prop := ∃ r v ka kc ss, DAll w R s r v ka kc ss ∧ s.ok ∧ (∀ k, DOwn R r v k → 3 ≤ k) ∧ F = DOwn R r v
theorem PAll.ne {w : World} {R : Nat} {s : Rv} {n g m : Nat} {v : Value} {ka : Option Addr} {kc : Nat} {ss : List BSl} (h : PAll w R s n g m v ka kc ss) : ¬ Own g m v R := by
  have h1 := h.at'
  unfold PAt at h1
  rintro (rfl | rfl | hO)
  · have h2 := h.buf.at'
    unfold PA at h2
    rw [h2] at h1; simp at h1
  · obtain ⟨es, cl, h2⟩ := h.buf.map.isMap
    rw [h2] at h1; cases h1
  · obtain ⟨cur, h2, _⟩ := h.buf.row.isRow hO
    rw [h2] at h1; simp at h1; exact absurd h1.2 (by decide)
theorem PAll.plain {w : World} {R : Nat} {s : Rv} {n g m : Nat} {v : Value} {ka : Option Addr} {kc : Nat} {ss : List BSl} (h : PAll w R s n g m v ka kc ss) {k : Nat} (hk : POwn R g m v k) : Plain w k := by
  rcases hk with rfl | hk
  · exact h.at'.plain
  · exact h.buf.plain hk
theorem PAll.lt {w : World} {R : Nat} {s : Rv} {n g m : Nat} {v : Value} {ka : Option Addr} {kc : Nat} {ss : List BSl} (h : PAll w R s n g m v ka kc ss) {k : Nat} (hk : POwn R g m v k) : k < w.heap.size := by
  rcases hk with rfl | hk
  · exact h.at'.lt
  · exact h.buf.lt hk
theorem PAll.apart {w w' : World} {G : Nat → Prop} {R : Nat} {s : Rv} {n g m : Nat} {v : Value} {ka : Option Addr} {kc : Nat} {ss : List BSl} (h : PAll w R s n g m v ka kc ss) (ha : Apart G w w') (hn : ∀ k, G k → ¬ POwn R g m v k) (hp : ∀ k, G k → Plain w k) : PAll w' R s n g m v ka kc ss :=
  ⟨(ha.block R h.at'.lt fun hG => hn R hG (.inl rfl)).trans h.at', h.key.apart ha hp, h.buf.apart ha (fun k hk ho => hn k hk (.inr ho)) hp⟩
theorem PM.apart {w w' : World} {G : Nat → Prop} {R : Nat} {q : Rv × Nat} {F : Nat → Prop} (h : PM w R q F) (ha : Apart G w w') (hn : ∀ k, G k → ¬ F k) (hp : ∀ k, G k → Plain w k) : PM w' R q F := by
  obtain ⟨g, m, v, ka, kc, ss, h, hok, hhi, rfl⟩ := h; exact ⟨g, m, v, ka, kc, ss, h.apart ha hn hp, hok, hhi, rfl⟩
theorem PAll.below {w w' : World} {R : Nat} {s : Rv} {n g m : Nat} {v : Value} {ka : Option Addr} {kc : Nat} {ss : List BSl} (h : PAll w R s n g m v ka kc ss) (hb : Below w.heap.size w w') : PAll w' R s n g m v ka kc ss :=
  h.apart (G := fun _ => False) (Apart.of_below hb) (fun _ h => h.elim) (fun _ h => h.elim)
theorem PM.below {w w' : World} {R : Nat} {q : Rv × Nat} {F : Nat → Prop} (h : PM w R q F) (hb : Below w.heap.size w w') : PM w' R q F :=
  h.apart (G := fun _ => False) (Apart.of_below hb) (fun _ h => h.elim) (fun _ h => h.elim)
theorem PM.mono {w : World} {R : Nat} {s : Rv} {n n' : Nat} {F : Nat → Prop} (h : PM w R (s, n) F) (hn : n ≤ n') : PM w R (s, n') F := by
  obtain ⟨g, m, v, ka, kc, ss, h, hok, hhi, rfl⟩ := h; exact ⟨g, m, v, ka, kc, ss, ⟨h.at', h.key, h.buf.mono hn⟩, hok, hhi, rfl⟩
theorem PAll.left {w w' : World} {R : Nat} {s : Rv} {n g m : Nat} {v : Value} {ka : Option Addr} {kc : Nat} {ss : List BSl} (h : PAll w R s n g m v ka kc ss) {b' : Bs} {n' : Nat} (hl : PLeft w g m v b' n' w') (hok : Rv.ok { s with b := b' }) (hhi : ∀ k, POwn R g m v k → 3 ≤ k) : Left PM w (POwn R g m v) R ({ s with b := b' }, n') w' := by
  obtain ⟨v', ss', h1, h2, h3⟩ := hl
  have h4 : ∀ k, POwn R g m v' k → POwn R g m v k ∨ w.heap.size ≤ k := fun k hk => by
    rcases hk with rfl | rfl | rfl | hk
    · exact .inl (.inl rfl)
    · exact .inl (.inr (.inl rfl))
    · exact .inl (.inr (.inr (.inl rfl)))
    · exact (h3 k hk).imp (fun h => .inr (.inr (.inr h))) id
  have h5 := h.at'.lt
  have h6 := hhi R (.inl rfl)
  exact ⟨_, ⟨g, m, v', ka, kc, ss', ⟨(h2.block R h.at'.lt h.ne).trans h.at', h.key.apart h2 fun k hk => h.buf.plain hk, h1⟩, hok, fun k hk => (h4 k hk).elim (hhi k) (fun h => by omega), rfl⟩, h2.mono fun k hk => .inr hk, h4⟩
theorem PAll.set {w : World} {R : Nat} {s : Rv} {n g m : Nat} {v : Value} {ka : Option Addr} {kc : Nat} {ss : List BSl} (h : PAll w R s n g m v ka kc ss) (i : Nat) (u : Value) {t : Rv} {kb : Option Addr} {kd : Nat} (hl : (pcL s ka kc g).set i u = pcL t kb kd g) (hb : t.b = s.b) (hk : Sees w kb kd t.key) :
    PAll (w.setCell ⟨R, i, none⟩ u) R t n g m v kb kd ss ∧ Apart (POwn R g m v) w (w.setCell ⟨R, i, none⟩ u) := by
  have ha : Apart (fun k => k = R) w (w.setCell ⟨R, i, none⟩ u) := (Apart.refl (fun k => k = R) w).setCell (b := R) (.inl rfl) i u
  have hp : ∀ k, k = R → Plain w k := fun k e => e ▸ h.at'.plain
  refine ⟨⟨h.at'.put i u hl, hk.apart ha hp, ?_⟩, ha.mono fun k e => .inl e⟩
  rw [hb]
  exact h.buf.apart ha (fun k e ho => h.ne (e ▸ ho)) hp
def TTab (w : World) : Prop := ETab w ∧ FTab w ∧ KTab w
theorem TTab.below {w w' : World} (h : TTab w) (hb : Below w.heap.size w w') : TTab w' := ⟨h.1.below hb, h.2.1.below hb, h.2.2.below hb⟩
theorem TTab.apart {F : Nat → Prop} {w w' : World} (h : TTab w) (ha : Apart F w w') (hF : ∀ k, F k → 3 ≤ k) : TTab w' := by
  refine ⟨?_, ?_, ?_⟩
  · exact ha.cell h.1 fun hf => by have h3 := hF _ hf; dsimp only at h3; omega
  · intro t ht
    exact ha.cell (h.2.1 t ht) fun hf => by have h3 := hF _ hf; dsimp only at h3; omega
  · intro t ht
    exact ha.cell (h.2.2 t ht) fun hf => by have h3 := hF _ hf; dsimp only at h3; omega
theorem PM.ok {w : World} {R : Nat} {q : Rv × Nat} {F : Nat → Prop} (h : PM w R q F) : q.1.ok := by
  obtain ⟨g, m, v, ka, kc, ss, h, hok, hhi, rfl⟩ := h; exact hok
theorem tmade_ok (w : World) (R g : Nat) (c16 : w.cell? ⟨R, 16, none⟩ = some (.pointer (some ⟨g, 0, none⟩))) : Calls Tryz.prog 33 #[.pointer (some ⟨R, 0, none⟩)] w fun e w' => e = .returned (.bool true) ∧ w' = w := by
  go_enter Tryz.func33, Tryz.ntmps33
  go_wp2
  go_ret
  exact ⟨rfl, rfl⟩
theorem PAt.c16 {w : World} {R : Nat} {s : Rv} {ka : Option Addr} {kc g : Nat} (h : PAt w R s ka kc g) : w.cell? ⟨R, 16, none⟩ = some (.pointer (some ⟨g, 0, none⟩)) := h.cell 16 rfl
theorem tepoch_ok (w : World) (R : Nat) (s : Rv) (ka : Option Addr) (kc g : Nat) (h : PAt w R s ka kc g) : Calls Tryz.prog 18 #[.pointer (some ⟨R, 0, none⟩)] w fun e w' => e = .returned (.int .i64 s.ep) ∧ w' = w := by
  have hs := tmade_ok w R g h.c16
  have c : w.cell? ⟨R, 11, none⟩ = some (.int .i64 s.ep) := h.cell 11 rfl
  clear h
  go_enter Tryz.func18, Tryz.ntmps18
  go_wp2_with fail
  refine hs.mono ?_
  rintro e w ⟨rfl, rfl⟩
  go_wp2
  go_ret
  exact ⟨rfl, rfl⟩
theorem tlast_ok (w : World) (R : Nat) (s : Rv) (ka : Option Addr) (kc g : Nat) (h : PAt w R s ka kc g) : Calls Tryz.prog 21 #[.pointer (some ⟨R, 0, none⟩)] w fun e w' => e = .returned (.int .i64 s.last) ∧ w' = w := by
  have hs := tmade_ok w R g h.c16
  have c : w.cell? ⟨R, 15, none⟩ = some (.int .i64 s.last) := h.cell 15 rfl
  clear h
  go_enter Tryz.func21, Tryz.ntmps21
  go_wp2_with fail
  refine hs.mono ?_
  rintro e w ⟨rfl, rfl⟩
  go_wp2
  go_ret
  exact ⟨rfl, rfl⟩
theorem twaiting_ok (w : World) (R : Nat) (s : Rv) (n g m : Nat) (v : Value) (ka : Option Addr) (kc : Nat) (ss : List BSl) (h : PAll w R s n g m v ka kc ss) : Calls Tryz.prog 20 #[.pointer (some ⟨R, 0, none⟩)] w fun e w' => e = .returned (.int .i64 (s.b.L.length : Int)) ∧ w' = w := by
  have hs := tmade_ok w R g h.at'.c16
  have hl := len_ok w g m v s.b ss n h.buf
  have c := h.at'.c16
  clear h
  go_enter Tryz.func20, Tryz.ntmps20
  go_wp2_with fail
  refine hs.mono ?_
  rintro e w ⟨rfl, rfl⟩
  go_wp2_with fail
  refine hl.mono ?_
  rintro e w ⟨rfl, rfl⟩
  go_wp2
  go_ret
  exact ⟨rfl, rfl⟩
theorem tiskey_ok (w : World) (R : Nat) (s : Rv) (ka : Option Addr) (kc g : Nat) (h : PAt w R s ka kc g) (i : Int) (x : Option Addr) (k : List UInt8) (cx : Nat) (_hk : k.length ≤ 9223372036854775807) :
    Calls Tryz.prog 69 #[.pointer (some ⟨R, 0, none⟩), .int .i64 i, .slice x k.length cx] w fun e w' => e = .returned (.bool (keyArg s i k)) ∧ w' = w := by
  have c4 : w.cell? ⟨R, 4, none⟩ = some (.int .i64 s.c.k) := h.cell 4 rfl
  clear h
  by_cases h0 : 0 ≤ i
  · by_cases h1 : i ≤ s.c.k
    · by_cases h2 : k.length = 16
      · have e : keyArg s i k = true := keyArg_iff.2 ⟨h0, h1, h2⟩
        rw [e, h2]
        clear e h2 _hk
        go_enter Tryz.func69, Tryz.ntmps69
        go_wp2
        go_ret
        exact ⟨rfl, rfl⟩
      · have e : keyArg s i k = false := by rw [← Bool.not_eq_true, keyArg_iff]; omega
        have d : ((k.length : Int) == 16) = false := by simp; omega
        rw [e]
        clear e h2
        go_enter Tryz.func69, Tryz.ntmps69
        go_wp2
        go_ret
        exact ⟨rfl, rfl⟩
    · have e : keyArg s i k = false := by rw [← Bool.not_eq_true, keyArg_iff]; omega
      have d : decide (i ≤ s.c.k) = false := decide_eq_false h1
      rw [e]
      clear e h1
      go_enter Tryz.func69, Tryz.ntmps69
      go_wp2
      go_ret
      exact ⟨rfl, rfl⟩
  · have e : keyArg s i k = false := by rw [← Bool.not_eq_true, keyArg_iff]; omega
    have d : decide (0 ≤ i) = false := decide_eq_false h0
    rw [e]
    clear e h0
    go_enter Tryz.func69, Tryz.ntmps69
    go_wp2
    go_ret
    exact ⟨rfl, rfl⟩
def ErrIs (v : Value) (n : Int) : Prop := (n = 0 ∧ v = .nilIface) ∨ ((n == 0) = false ∧ ∃ s, v = trefV s n)
theorem trefuse_none (s : ByteArray) (w : World) : Calls Tryz.prog 70 #[.string s, .int .i64 0] w fun e w' => e = .returned .nilIface ∧ w' = w := by
  go_enter Tryz.func70, Tryz.ntmps70
  go_wp2
  go_ret
  exact ⟨rfl, rfl⟩
theorem trefuse_some (s : ByteArray) (n : Int) (hn : (n == 0) = false) (w : World) : Calls Tryz.prog 70 #[.string s, .int .i64 n] w fun e w' => e = .returned (trefV s n) ∧ w' = w := by
  unfold trefV
  go_enter Tryz.func70, Tryz.ntmps70
  go_wp2
  go_ret
  exact ⟨rfl, rfl⟩
theorem trefuse_any (s : ByteArray) (n : Int) (w : World) : Calls Tryz.prog 70 #[.string s, .int .i64 n] w fun e w' => ∃ v, e = .returned v ∧ ErrIs v n ∧ w' = w := by
  cases hn : n == 0
  · exact (trefuse_some s n hn w).mono fun e w' ⟨h1, h2⟩ => ⟨_, h1, .inr ⟨hn, s, rfl⟩, h2⟩
  · obtain rfl : n = 0 := by simpa using hn
    exact (trefuse_none s w).mono fun e w' ⟨h1, h2⟩ => ⟨_, h1, .inl ⟨rfl, rfl⟩, h2⟩
theorem tnumber_any (v : Value) (n : Int) (h : ErrIs v n) (w : World) (hE : ETab w) : Calls Tryz.prog 34 #[v] w fun e w' => e = .returned (.int .i64 n) ∧ Below w.heap.size w w' := by
  rcases h with ⟨rfl, rfl⟩ | ⟨_, s, rfl⟩
  · exact tnumber_none w
  · exact tnumber_some s n w hE
def PGo (w : World) (R g m : Nat) (v : Value) (s' : Rv) (n' : Nat) (w' : World) : Prop := ∃ v' kb kd ss', PAll w' R s' n' g m v' kb kd ss' ∧ Apart (POwn R g m v) w w' ∧ ∀ j, v'.ownBlock = some j → v.ownBlock = some j ∨ w.heap.size ≤ j
theorem PGo.same {w w' : World} {R g m : Nat} {v : Value} {s : Rv} {n : Nat} {ka : Option Addr} {kc : Nat} {ss : List BSl} (h : PAll w' R s n g m v ka kc ss) (ha : Apart (POwn R g m v) w w') : PGo w R g m v s n w' := ⟨v, ka, kc, ss, h, ha, fun _ h => .inl h⟩
theorem PGo.below {w w' w2 : World} {R g m : Nat} {v : Value} {s : Rv} {n : Nat} (h : PGo w R g m v s n w') (hb : Below w'.heap.size w' w2) : PGo w R g m v s n w2 := by
  obtain ⟨v', kb, kd, ss', h1, h2, h3⟩ := h
  exact ⟨v', kb, kd, ss', h1.below hb, h2.trans (Apart.of_below (F := fun _ => False) hb) (fun _ h => h.elim), h3⟩
theorem PGo.behind {w w1 w' : World} {R g m : Nat} {v : Value} {s : Rv} {n : Nat} (hb : Below w.heap.size w w1) (h : PGo w1 R g m v s n w') : PGo w R g m v s n w' := by
  obtain ⟨v', kb, kd, ss', h1, h2, h3⟩ := h
  exact ⟨v', kb, kd, ss', h1, (Apart.of_below hb).trans h2 (fun _ h => .inl h), fun j hj => (h3 j hj).imp id fun h => Nat.le_trans hb.size h⟩
theorem PGo.after {w w1 w' : World} {R g m : Nat} {v : Value} {s : Rv} {n : Nat} (ha : Apart (POwn R g m v) w w1) (h : PGo w1 R g m v s n w') : PGo w R g m v s n w' := by
  obtain ⟨v', kb, kd, ss', h1, h2, h3⟩ := h
  exact ⟨v', kb, kd, ss', h1, ha.trans h2 (fun _ h => .inl h), fun j hj => (h3 j hj).imp id fun h => Nat.le_trans ha.size h⟩
theorem PGo.mono {w w' : World} {R g m : Nat} {v : Value} {s : Rv} {n n' : Nat} (h : PGo w R g m v s n w') (hn : n ≤ n') : PGo w R g m v s n' w' := by
  obtain ⟨v', kb, kd, ss', h1, h2, h3⟩ := h
  exact ⟨v', kb, kd, ss', ⟨h1.at', h1.key, h1.buf.mono hn⟩, h2, h3⟩
theorem PGo.own {w : World} {R g m : Nat} {v v' : Value} (h3 : ∀ j, v'.ownBlock = some j → v.ownBlock = some j ∨ w.heap.size ≤ j) : ∀ k, POwn R g m v' k → POwn R g m v k ∨ w.heap.size ≤ k := fun k hk => by
  rcases hk with rfl | rfl | rfl | hk
  · exact .inl (.inl rfl)
  · exact .inl (.inr (.inl rfl))
  · exact .inl (.inr (.inr (.inl rfl)))
  · exact (h3 k hk).imp (fun h => .inr (.inr (.inr h))) id
theorem PGo.left {w w' : World} {R g m : Nat} {v : Value} {s : Rv} {n : Nat} (h : PGo w R g m v s n w') (hok : s.ok) (hhi : ∀ k, POwn R g m v k → 3 ≤ k) (hR : R < w.heap.size) : Left PM w (POwn R g m v) R (s, n) w' := by
  obtain ⟨v', kb, kd, ss', h1, h2, h3⟩ := h
  have h4 := PGo.own (w := w) (R := R) (g := g) (m := m) h3
  have h6 := hhi R (.inl rfl)
  exact ⟨_, ⟨g, m, v', kb, kd, ss', h1, hok, fun k hk => (h4 k hk).elim (hhi k) (fun h => by omega), rfl⟩, h2, h4⟩
theorem PGo.tabs {w w' : World} {R g m : Nat} {v : Value} {s : Rv} {n : Nat} (h : PGo w R g m v s n w') (hhi : ∀ k, POwn R g m v k → 3 ≤ k) (hT : TTab w) : TTab w' := by
  obtain ⟨v', kb, kd, ss', h1, h2, h3⟩ := h; exact hT.apart h2 hhi
theorem PLeft.go {w w' : World} {R : Nat} {s : Rv} {n g m : Nat} {v : Value} {ka : Option Addr} {kc : Nat} {ss : List BSl} (h : PAll w R s n g m v ka kc ss) {b' : Bs} {n' : Nat} (hl : PLeft w g m v b' n' w') : PGo w R g m v { s with b := b' } n' w' := by
  obtain ⟨v', ss', h1, h2, h3⟩ := hl
  exact ⟨v', ka, kc, ss', ⟨(h2.block R h.at'.lt h.ne).trans h.at', h.key.apart h2 fun k hk => h.buf.plain hk, h1⟩, h2.mono fun k hk => .inr hk, h3⟩
theorem frL_one (p : Fr × At) : ∀ u ∈ frL p.1 p.2, u.oneCell' = true := by
  intro v hv
  simp only [frL, List.mem_cons, List.not_mem_nil, or_false] at hv
  rcases hv with rfl | rfl | rfl | rfl | rfl | rfl | rfl | rfl | rfl | rfl | rfl | rfl | rfl <;> rfl
theorem frL_nob (p : Fr × At) : ∀ u ∈ frL p.1 p.2, ∀ k y, u = Value.int k y → (k == IntKind.u8) = false := by
  intro v hv k y
  simp only [frL, List.mem_cons, List.not_mem_nil, or_false] at hv
  rcases hv with rfl | rfl | rfl | rfl | rfl | rfl | rfl | rfl | rfl | rfl | rfl | rfl | rfl <;> intro e <;> cases e <;> rfl
theorem zFr_nob : ∀ u ∈ (Value.agg (frC Fr.zero At.zero)).cells.toList, ∀ k y, u = Value.int k y → (k == IntKind.u8) = false := frL_nob (Fr.zero, At.zero)
def EFr : Enc (Fr × At) := ⟨61, 41, 13, .agg (frC Fr.zero At.zero), 152, fun p => frL p.1 p.2, fun _ => rfl, frL_one, frL_nob, by kernel_rfl, by kernel_rfl, rfl, by decide, zFr_nob⟩
theorem Seen.apart {w w' : World} {G : Nat → Prop} {F : Fr} {A : At} (h : Seen w F A) (ha : Apart G w w') (hp : ∀ k, G k → Plain w k) : Seen w' F A := ⟨h.key.apart ha hp, h.body.apart ha hp, h.tag.apart ha hp⟩
def Frs (w : World) (v : Value) (L : List Fr) : Prop := ∃ os : List (Fr × At), Row EFr w v os ∧ (∀ p ∈ os, Seen w p.1 p.2) ∧ os.map Prod.fst = L
theorem Frs.below {w w' : World} {v : Value} {L : List Fr} (h : Frs w v L) (hb : Below w.heap.size w w') : Frs w' v L := by
  obtain ⟨os, h1, h2, h3⟩ := h
  exact ⟨os, h1.below hb, fun p hp => (h2 p hp).below hb, h3⟩
theorem Frs.apart {w w' : World} {G : Nat → Prop} {v : Value} {L : List Fr} (h : Frs w v L) (ha : Apart G w w') (hn : ∀ k, v.ownBlock = some k → ¬ G k) (hp : ∀ k, G k → Plain w k) : Frs w' v L := by
  obtain ⟨os, h1, h2, h3⟩ := h
  exact ⟨os, h1.apart ha hn, fun p hq => (h2 p hq).apart ha hp, h3⟩
theorem Frs.nil (w : World) : Frs w (.slice none 0 0) [] := ⟨[], Row.nil _ _, fun p hp => by simp at hp, rfl⟩
theorem Frs.shape {w : World} {v : Value} {L : List Fr} (h : Frs w v L) : ∃ a c, v = .slice a L.length c := by
  obtain ⟨os, h1, _, h3⟩ := h
  obtain ⟨a, c, e, _⟩ := h1.shape
  rw [← h3, List.length_map]
  exact ⟨a, c, e⟩
theorem Frs.plain {w : World} {v : Value} {L : List Fr} (h : Frs w v L) {k : Nat} (hk : v.ownBlock = some k) : Plain w k := by
  obtain ⟨os, h1, _, _⟩ := h; exact h1.plain hk
theorem Frs.push {w : World} {v : Value} {L : List Fr} (h : Frs w v L) (hl : L.length ≤ 900) (F : Fr) (A : At) (hF : Seen w F A) (c off sc : Nat) (hc : ∀ j u, (frL F A)[j]? = some u → w.cell? ⟨c, off + j, none⟩ = some u) :
    ∃ v' w', (Builtin.append_ #[41, 41] 41 #[v, .slice (some ⟨c, off, none⟩) 1 sc]).run Tryz.prog w = .ok v' w' ∧ Frs w' v' (L ++ [F]) ∧ Apart (fun k => v.ownBlock = some k) w w' ∧ (∀ k, v'.ownBlock = some k → v.ownBlock = some k ∨ w.heap.size ≤ k) := by
  have hp : ∀ k, v.ownBlock = some k → Plain w k := fun k hk => h.plain hk
  obtain ⟨os, h1, h2, h3⟩ := h
  have hol : os.length = L.length := by rw [← h3, List.length_map]
  obtain ⟨v', w', r1, r2, r3, r4⟩ := h1.append [(F, A)] (by simp; omega) (some ⟨c, off, none⟩) sc fun _ => ⟨c, off, rfl, fun j u hu => hc j u (by simpa [Enc.cs, EFr] using hu)⟩
  refine ⟨v', w', r1, ⟨os ++ [(F, A)], r2, fun p hq => ?_, by rw [List.map_append, h3]; rfl⟩, r3, r4⟩
  rcases List.mem_append.1 hq with hq | hq
  · exact (h2 p hq).apart r3 hp
  · obtain rfl := List.mem_singleton.1 hq
    exact hF.apart r3 hp
end Go.Proofs.YtmffplhaclnehaaGreatDoor
