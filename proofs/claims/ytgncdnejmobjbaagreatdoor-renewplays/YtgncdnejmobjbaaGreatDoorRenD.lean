/-
  The document's chain of a speaker in memory: made, begun, and what it tells.
-/
import Derived.Test.YtgncdnejmobjbaaGreatDoorRenM
import Derived.Test.YtgncdnejmobjbaaGreatDoorDisC
import Derived.Test.YtgncdnejmobjbaaGreatDoorDisR
import Derived.Test.YtgncdnejmobjbaaGreatDoorChainR
import Derived.Deep.MidRow
import Derived.OwnWalk
namespace Go.Proofs.YtgncdnejmobjbaaGreatDoor
open Go.ChangeShapes Go.WideShapes Go.ChangeAt Go.RowKit
set_option maxRecDepth 20000

/-- The cells of the document's: the last is its keys. -/
def dnL (s : Rn) (oa : Option Addr) (oc : Nat) (K : Value) : List Value :=
  [.int .i64 s.c.n, .int .i64 s.c.f, .int .i64 s.c.s, .int .i64 s.c.d, .int .i64 s.c.k, .int .i64 s.c.e, .int .i64 s.c.v, .int .i64 s.c.r, .int .i64 s.c.l, .int .i64 s.c.p,
    .slice oa s.own.length oc, .int .i64 s.sl, .int .i64 s.ep, .int .i64 s.st, K]
def DNAt (w : World) (R : Nat) (s : Rn) (oa : Option Addr) (oc : Nat) (K : Value) : Prop := w.heap[R]? = some (.cells (dnL s oa oc K).toArray 52 (0, 0))
theorem DNAt.cell {w : World} {R : Nat} {s : Rn} {oa : Option Addr} {oc : Nat} {K : Value} (h : DNAt w R s oa oc K) (i : Nat) {u : Value} (hu : (dnL s oa oc K)[i]? = some u) : w.cell? ⟨R, i, none⟩ = some u := by
  rw [cell_of_row w _ i _ _ _ h]; simpa using hu
theorem DNAt.fz {w : World} {R : Nat} {s : Rn} {oa : Option Addr} {oc : Nat} {K : Value} (h : DNAt w R s oa oc K) (i : Nat) : w.frozen? ⟨R, i, none⟩ = false := frozen_of_row _ _ i _ _ h
theorem DNAt.lt {w : World} {R : Nat} {s : Rn} {oa : Option Addr} {oc : Nat} {K : Value} (h : DNAt w R s oa oc K) : R < w.heap.size := (Array.getElem?_eq_some_iff.1 h).1
theorem DNAt.put {w : World} {R : Nat} {s t : Rn} {oa : Option Addr} {oc : Nat} {K L : Value} (h : DNAt w R s oa oc K) (i : Nat) (u : Value) (hl : (dnL s oa oc K).set i u = dnL t oa oc L) : DNAt (w.setCell ⟨R, i, none⟩ u) R t oa oc L := by
  show (w.setCell ⟨R, i, none⟩ u).heap[R]? = _
  rw [heap_setCell_same _ _ _ _ _ _ h]
  congr 2
  rw [List.setIfInBounds_toArray, hl]
theorem DNAt.loads {w : World} {R : Nat} {s : Rn} {oa : Option Addr} {oc : Nat} {K : Value} (h : DNAt w R s oa oc K) : (Instr.loadAt 23 (.pointer (some ⟨R, 0, none⟩))).run Tryz.prog w = .ok (.agg (cfC s.c)) w :=
  run_loadAt_mid w R 0 23 (cfL s.c) _ (fun j v hv => by
    rw [Nat.zero_add]
    refine h.cell j ?_
    have hj : j < 10 := (List.getElem?_eq_some_iff.1 hv).1
    show (cfL s.c ++ _)[j]? = some v
    rw [List.getElem?_append_left hj]; exact hv) Tryz.underlying23 rfl (by kernel_rfl)
/-- How many keys it has. -/
def Rn.kn (s : Rn) : Nat := if s.ep < 0 then 0 else s.c.k.toNat + 1
structure DNAll (w : World) (R : Nat) (s : Rn) (oa : Option Addr) (oc : Nat) (ka : Option Addr) (kc : Nat) : Prop where
  at' : DNAt w R s oa oc (.slice ka s.kn kc)
  own : Sees w oa oc s.own
  keys : 0 ≤ s.ep → ∃ g, ka = some ⟨g, 0, none⟩ ∧ Full w g s.c.k.toNat s.last
theorem Full.below {w w' : World} {g n : Nat} {key : List UInt8} (h : Full w g n key) (hb : Below w.heap.size w w') : Full w' g n key := by
  obtain ⟨s, h1, h2, h3⟩ := h
  exact ⟨s, h1, (hb.block g (Array.getElem?_eq_some_iff.1 h2).1).trans h2, h3.below hb⟩
theorem dnL_nob (s : Rn) (oa : Option Addr) (oc : Nat) (ka : Option Addr) (n kc : Nat) (j : Nat) (y : Int) : (dnL s oa oc (.slice ka n kc)).toArray[j]? ≠ some (.int .u8 y) := by
  rw [List.getElem?_toArray]
  intro h
  have := List.mem_of_getElem? h
  simp [dnL] at this
/-- A cell of the chain's own is written: bytes and the keys stay. -/
theorem Full.aside {w : World} {g n : Nat} {key : List UInt8} (h : Full w g n key) {R : Nat} {s : Rn} {oa : Option Addr} {oc : Nat} {ka : Option Addr} {m kc : Nat} (hR : DNAt w R s oa oc (.slice ka m kc)) (i : Nat) (v : Value) : Full (w.setCell ⟨R, i, none⟩ v) g n key := by
  obtain ⟨l, h1, h2, h3⟩ := h
  refine ⟨l, h1, ?_, fun j p hj => (h3 j p hj).slot hR (dnL_nob s oa oc ka m kc) i v⟩
  rw [heap_setCell_other _ _ _ _ (by
    rintro rfl
    unfold DNAt at hR
    rw [hR] at h2
    simp at h2)]
  exact h2
theorem DNAll.below {w w' : World} {R : Nat} {s : Rn} {oa : Option Addr} {oc : Nat} {ka : Option Addr} {kc : Nat} (h : DNAll w R s oa oc ka kc) (hb : Below w.heap.size w w') : DNAll w' R s oa oc ka kc :=
  ⟨(hb.block R h.at'.lt).trans h.at', h.own.below hb, fun h0 => by
    obtain ⟨g, e, hf⟩ := h.keys h0
    exact ⟨g, e, hf.below hb⟩⟩
/-- What is told: an index, bytes, an error. -/
def NTells (w w' : World) (e : Ending) (t : Int × List UInt8 × Int) : Prop := ∃ d cd, e = .returned (.tuple #[.int .i64 t.1, .slice d t.2.1.length cd, .int .i64 t.2.2]) ∧ Sees w' d cd t.2.1 ∧ Below w.heap.size w w'

theorem nkey_copy (w : World) (x : Option Addr) (cx : Nat) (k : List UInt8) (hx : Sees w x cx k) (hk : k.length = 16) : ∃ d cd w3, (Builtin.append_ #[24, 24] 24 #[.slice (some ⟨w.heap.size, 0, none⟩) 0 0, .slice x 16 cx]).run Tryz.prog (w.alloc (.cells #[] 5)) = .ok (.slice d 16 cd) w3 ∧ Sees w3 d cd k ∧ Below w.heap.size w w3 := by
  have hb : Below w.heap.size w (w.alloc (.cells #[] 5)) := (Below.refl _ _).alloc (Nat.le_refl _) _
  obtain ⟨v3, w3, hrun2, ho, hbl⟩ := append_own_any (w.alloc (.cells #[] 5)) w.heap.size _ [] (own_empty w) x cx k (hx.below hb) (by simp; omega) (by simp)
  obtain ⟨d, cd, rfl, hs3⟩ := Sees.of_own ho
  rw [List.nil_append] at hs3 hrun2
  rw [hk] at hrun2
  exact ⟨d, cd, w3, hrun2, hs3, hbl _ _ hb (Nat.le_refl _)⟩
set_option maxHeartbeats 1600000 in
theorem nkey_any (w : World) (R : Nat) (s : Rn) (oa : Option Addr) (oc : Nat) (ka : Option Addr) (kc : Nat) (h : DNAll w R s oa oc ka kc) (p : Int × Int) (hp : p.2 = 0 → 0 ≤ s.ep ∧ 0 ≤ p.1 ∧ p.1 ≤ s.c.k) (hk : 0 ≤ s.c.k ∧ s.c.k ≤ 256) :
    Calls Tryz.prog 33 #[.pointer (some ⟨R, 0, none⟩), .int .i64 p.1, .int .i64 p.2] w fun e w' => NTells w w' e (s.tell p) := by
  obtain ⟨i, e⟩ := p
  dsimp only at hp ⊢
  by_cases h0 : e = 0
  · subst h0
    obtain ⟨he, hi0, hi1⟩ := hp rfl
    obtain ⟨j, rfl⟩ : ∃ j : Nat, i = (j : Int) := ⟨i.toNat, by omega⟩
    have hkn : s.kn = s.c.k.toNat + 1 := if_neg (by omega)
    obtain ⟨g, rfl, hfu⟩ := h.keys he
    obtain ⟨b, off, hbo, x, cx, hc, hs⟩ := (hfu.rows (lastL_len _) (by omega)).at' j _ (allL_get _ _ j (by omega))
    obtain ⟨rfl, rfl⟩ : g = b ∧ 0 = off := by simpa using hbo
    have hl : (backL (s.c.k.toNat - j) s.last).length = 16 := backL_len _ _ (lastL_len _)
    rw [hl, Nat.zero_add] at hc
    obtain ⟨d, cd, w3, hrun, h3, hb3⟩ := nkey_copy w x cx _ hs hl
    have c14 := h.at'.cell 14 rfl
    obtain ⟨n, hn⟩ : ∃ n, n = s.kn := ⟨_, rfl⟩
    rw [← hn] at c14
    have j1 : (j : Int) < (n : Int) := by omega
    have HR : Hid ((Builtin.append_ #[24, 24] 24 #[.slice (some ⟨w.heap.size, 0, none⟩) 0 0, .slice x 16 cx]).run Tryz.prog (w.alloc (.cells #[] 5)) = .ok (.slice d 16 cd) w3) := hrun
    have HE : Hid (NTells w w3 (.returned (.tuple #[.int .i64 (j : Int), .slice d 16 cd, .int .i64 0])) (s.tell ((j : Int), 0))) := ⟨d, cd, by show _ = Ending.returned (.tuple #[_, .slice d (s.key _).length cd, _]); rw [s.key_len]; rfl, h3, hb3⟩
    have q1 : (w.alloc (.cells #[] 5)).cell? ⟨R, 14, none⟩ = some (.slice (some ⟨g, 0, none⟩) n kc) := by
      rw [((Below.refl w.heap.size w).alloc (Nat.le_refl _) _).cell (p := ⟨R, 14, none⟩) h.at'.lt]; exact c14
    have q2 : (w.alloc (.cells #[] 5)).cell? ⟨g, j, none⟩ = some (.slice x 16 cx) := by
      rw [((Below.refl w.heap.size w).alloc (Nat.le_refl _) _).cell (p := ⟨g, j, none⟩) (World.block_lt_of_cell? w _ hc)]; exact hc
    clear h hp hk he hi0 hi1 hkn hc hs hl hrun h3 hb3 hn hfu
    go_enter Tryz.func33, Tryz.ntmps33
    go_wp2_with (at_builtin; refine wpList_append_run rfl (.tmp 13) (.tmp 20) 24 rfl _ _ _ rfl rfl HR.out ?_)
    go_ret3
    exact HE.out
  · have ht : s.tell (i, e) = (0, [], e) := if_neg h0
    rw [ht]
    clear h hp hk ht
    go_enter Tryz.func33, Tryz.ntmps33
    go_wp2
    go_ret3
    exact ⟨none, 0, rfl, Sees.nil' _, Below.refl _ _⟩
end Go.Proofs.YtgncdnejmobjbaaGreatDoor
