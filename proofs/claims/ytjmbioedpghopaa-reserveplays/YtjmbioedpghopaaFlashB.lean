/-
  The contract of flash's Write.

  The contracts of slices.Clone over bytes, and of flash's Read and Copy.

  The contracts of math/bits.Mul (of 1 and a number), slices.Repeat (of one byte), flash's New, and awake.

  A flash that lies in memory behind a world's own: the contracts over one such.
-/
import Derived.Test.YtjmbioedpghopaaFlashA
import Derived.Deep.OwnRows
import Derived.Test.YtjmbioedpghopaaGround
namespace Go.Proofs.Ytjmbioedpghopaa
open Go.ChangeShapes Go.WideShapes Go.ChangeAt Go.RowKit

/-- c bytes of l put at a place. -/
def putAt (b : List UInt8) (a c : Nat) (l : List UInt8) : List UInt8 := b.take a ++ l.take c ++ b.drop (a + c)

theorem putAt_len (b : List UInt8) (a c : Nat) (l : List UInt8) (h : a + c ≤ b.length) (hc : c ≤ l.length) : (putAt b a c l).length = b.length := by
  simp [putAt]; omega

theorem put_cells (C : List Value) (b : List UInt8) (a c : Nat) (l : List UInt8) (hC : C.take b.length = b.map cellOf) (h : a + c ≤ b.length) (hc : c ≤ l.length) (hn : b.length ≤ C.length) :
    (C.take a ++ (l.take c).map cellOf ++ C.drop (a + c)).take b.length = (putAt b a c l).map cellOf := by
  have h1 : C.take a = (b.take a).map cellOf := by rw [List.map_take, ← hC, List.take_take, Nat.min_eq_left (by omega)]
  have h2 : (C.drop (a + c)).take (b.length - (a + c)) = (b.drop (a + c)).map cellOf := by rw [List.map_drop, ← hC, List.drop_take]
  have l1 : (C.take a ++ (l.take c).map cellOf).length = a + c := by simp; omega
  rw [List.take_append, List.take_of_length_le (by omega), l1, h2, h1, putAt, List.map_append, List.map_append]

/-- What Write answers, and what it leaves. -/
def writeE (s : PS) (a : Int) (l : List UInt8) : Nat := if checkE s a l.length ≠ 0 then checkE s a l.length else if tornB s then 5 else 0
def writeS (s : PS) (a : Int) (l : List UInt8) : PS :=
  if checkE s a l.length ≠ 0 then s else { nextS s with b := putAt s.b a.toNat (cutN s l.length) l, n := s.n + 1, dead := s.dead || tornB s }

theorem check_zero {s : PS} {a n : Int} (h : checkE s a n = 0) : s.dead = false ∧ 0 ≤ a ∧ 0 ≤ n ∧ a + n ≤ s.b.length := by
  unfold checkE at h
  split at h
  · omega
  · rename_i hd
    split at h
    · omega
    · exact ⟨by simpa using hd, by omega, by omega, by omega⟩

set_option maxHeartbeats 1600000 in
set_option maxRecDepth 20000 in
theorem write_ok (w : World) (g : Nat) (s : PS) (F : Nat → Prop) (h : PF w g s F) (hn : s.n ≤ 1000000) (a : Int) (ha : (Lit.int .i64 a).wf = true) (x : Option Addr) (cx : Nat) (l : List UInt8) (hx : Sees w x cx l) (hxn : ∀ b off, x = some ⟨b, off, none⟩ → l ≠ [] → ¬ F b) :
    Calls Try.prog 9 #[.pointer (some ⟨g, 0, none⟩), .int .i64 a, .slice x l.length cx] w fun e w' => e = .returned (.int .i64 (writeE s a l : Int)) ∧ Left PF w F g (writeS s a l) w' := by
  have HK : Hid (Left PF w F g s w) := ⟨F, h, Apart.refl _ _, fun _ h => .inl h⟩
  obtain ⟨q, cap, cur, h, hF, hq, hl⟩ := h
  have hll : l.length ≤ 9223372036854775807 := by have := hx.fits; have := hx.room; unfold maxLen at this; omega
  have hck := check_ok w g s q cap cur h a l.length ha
  by_cases hc : checkE s a l.length = 0
  · obtain ⟨hd, ha0, _, hal⟩ := check_zero hc
    obtain ⟨A, rfl⟩ : ∃ A : Nat, a = (A : Int) := ⟨a.toNat, by omega⟩
    have hcut : cutN s l.length ≤ l.length := by unfold cutN; split <;> omega
    have hAl : A + l.length ≤ s.b.length := by omega
    obtain ⟨c, hcd⟩ : ∃ c, c = cutN s l.length := ⟨_, rfl⟩
    rw [← hcd] at hcut
    -- the writes counted
    have h1 := h.set 2 (.int .i64 ((s.n : Int) + 1)) { s with n := s.n + 1 } rfl h.kl h.ml (by simp)
    have hnx := next_ok _ g _ q cap cur h1 l.length hll
    have e1 : cutN { s with n := s.n + 1 } l.length = c := by rw [hcd]; rfl
    have e2 : tornB { s with n := s.n + 1 } = tornB s := rfl
    rw [e1, e2] at hnx
    have eW : writeE s (A : Int) l = if tornB s then 5 else 0 := by unfold writeE; rw [if_neg (by simp [hc])]
    have eS : writeS s (A : Int) l = { nextS s with b := putAt s.b A c l, n := s.n + 1, dead := s.dead || tornB s } := by
      unfold writeS; rw [if_neg (by simp [hc]), ← hcd]; rfl
    rw [hc] at hck
    have c2 := h.ns
    have f2 := h.lax 2
    have HFIN : Hid (∀ w2, PA w2 g (nextS { s with n := s.n + 1 }) q cap cur → Apart (fun i => i = g) (w.setCell ⟨g, 2, none⟩ (.int .i64 ((s.n : Int) + 1))) w2 →
        ∃ w3, (Builtin.copy_ #[22, 22] 3 #[partV q A c, .slice x l.length cx]).run Try.prog w2 = .ok (.int .i64 (c : Int)) w3 ∧ ∃ cur', PA w3 g { nextS s with b := putAt s.b A c l, n := s.n + 1 } q cap cur' ∧ Apart F w w3) := by
      intro w2 h2 ap2
      have ap2' : Apart F w w2 := (apart_set (Apart.refl _ _) hF _ _).trans ap2 (fun i hi => .inl (by rw [hi]; exact hF))
      have hx2 : Sees w2 x cx l := ap2'.sees hx hxn
      by_cases hc0 : c = 0
      · subst hc0
        refine ⟨w2, ?_, cur, ?_, ap2'⟩
        · have := copy_nil w2 (some ⟨q, 0, none⟩) 0 x cx l.length
          simpa [partV] using this
        · have : putAt s.b A 0 l = s.b := by simp [putAt]
          rw [this]; exact h2
      · have hsz : s.b.length ≤ cur.size := by rw [h.size]; exact h.fits
        obtain ⟨w3, hrun, hg3, ap3, _⟩ := copy_row w2 q A c c cur h2.bytes (by omega) x cx l hx2 c (by omega)
        refine ⟨w3, by unfold partV; rw [if_neg hc0]; exact hrun, _, ⟨?_, hg3, ?_, h.room, ?_, ?_, ?_, ?_, ?_⟩, ap2'.trans ap3 (fun i hi => .inl (by rw [hi]; exact hq))⟩
        · have hgs : g < w2.heap.size := (Array.getElem?_eq_some_iff.1 h2.row).1
          rw [ap3.block g hgs h.ne, h2.row, putAt_len _ _ _ _ (by omega) hcut]; rfl
        · show (putAt s.b A c l).length ≤ cap
          rw [putAt_len _ _ _ _ (by omega) hcut]; exact h.fits
        · have := h.size; simp; omega
        · show List.take (putAt s.b A c l).length _ = (putAt s.b A c l).map cellOf
          rw [putAt_len _ _ _ _ (by omega) hcut]
          exact put_cells cur.toList s.b A c l h.holds (by omega) hcut (by simpa using hsz)
        · show (putAt s.b A c l).length ≤ 4096
          rw [putAt_len _ _ _ _ (by omega) hcut]; exact h.small
        · exact h2.kl
        · exact h2.ml
    have HPT : Hid (∀ w2, PA w2 g (nextS { s with n := s.n + 1 }) q cap cur → Calls Try.prog 30 #[.pointer (some ⟨g, 0, none⟩), .int .i64 (A : Int), .int .i64 (c : Int)] w2 fun e w' => e = .returned (partV q A c) ∧ w' = w2) := fun w2 h2 =>
      part_ok w2 g _ q cap cur h2 A c (by show A + c ≤ s.b.length; omega)
    have HLF : Hid (∀ w3 cur' s', PA w3 g s' q cap cur' → Apart F w w3 → Left PF w F g s' w3) := fun w3 cur' s' h3 ap3 => h.left h3 hF hq hl ap3
    obtain ⟨E, hE⟩ : ∃ E, E = writeE s (A : Int) l := ⟨_, rfl⟩
    obtain ⟨S, hS⟩ : ∃ S, S = writeS s (A : Int) l := ⟨_, rfl⟩
    rw [← hE, ← hS]
    rw [eW] at hE
    rw [eS] at hS
    have HE0 : Hid (E = if tornB s then 5 else 0) := hE
    have HS0 : Hid (S = { nextS s with b := putAt s.b A c l, n := s.n + 1, dead := s.dead || tornB s }) := hS
    clear h1 e1 e2 eW eS hx hxn h hl hcd hc hAl hE hS
    go_enter Try.func9, Try.ntmps9
    go_wp2_with fail
    refine hck.mono ?_
    rintro e w1 ⟨rfl, rfl⟩
    clear hck
    go_wp2_with fail
    refine hnx.mono ?_
    rintro e w2 ⟨rfl, h2, ap2⟩
    clear hnx c2 f2
    go_wp2_with fail
    refine (HPT.out w2 h2).mono ?_
    rintro e w3 ⟨rfl, rfl⟩
    obtain ⟨w4, hrun, cur', h4, ap4⟩ := HFIN.out _ h2 ap2
    have HR : Hid ((Builtin.copy_ #[22, 22] 3 #[partV q A c, .slice x l.length cx]).run Try.prog w3 = .ok (.int .i64 (c : Int)) w4) := hrun
    have HL := HLF.out w4
    have c6 := h4.deads
    have f6 := h4.lax 6
    clear hrun h2 ap2 HPT HFIN
    cases ht : tornB s
    · have HE : Hid (Left PF w1 F g S w4) := by
        rw [HS0.out, ht, Bool.or_false]; exact HL _ _ h4 ap4
      clear HL h4 ap4 HLF
      have hr := HR.out
      go_wp2
      go_ret
      exact ⟨by rw [HE0.out, ht]; rfl, HE.out⟩
    · have HE : Hid (Left PF w1 F g S (w4.setCell ⟨g, 6, none⟩ (.bool true))) := by
        rw [HS0.out, ht, Bool.or_true]
        exact HLF.out _ _ _ (h4.set 6 (.bool true) { nextS s with b := putAt s.b A c l, n := s.n + 1, dead := true } rfl h4.kl h4.ml rfl) (apart_set ap4 hF 6 _)
      clear HL h4 ap4 HLF
      have hr := HR.out
      go_wp2
      go_ret
      exact ⟨by rw [HE0.out, ht]; rfl, HE.out⟩
  · have eW : writeE s a l = checkE s a l.length := by unfold writeE; rw [if_pos hc]
    have eS : writeS s a l = s := by unfold writeS; rw [if_pos hc]
    rw [eW, eS]
    obtain ⟨E, hE⟩ : ∃ E, E = checkE s a l.length := ⟨_, rfl⟩
    rw [← hE] at hck hc ⊢
    have d0 : ((E : Int) == 0) = false := by simp; omega
    clear h hl hx hxn eW eS hE
    go_enter Try.func9, Try.ntmps9
    go_wp2_with fail
    refine hck.mono ?_
    rintro e w1 ⟨rfl, rfl⟩
    clear hck
    go_wp2
    go_ret
    exact ⟨rfl, HK.out⟩
end Go.Proofs.Ytjmbioedpghopaa

namespace Go.Proofs.Ytjmbioedpghopaa
open Go.ChangeShapes Go.WideShapes Go.ChangeAt Go.RowKit

/-- A copy of bytes that has a place: memory of its own. -/
theorem clone_own (w : World) (ad : Addr) (cx : Nat) (cs : List UInt8) (hx : Sees w (some ad) cx cs) (hb : cs.length ≤ 140737488355328) :
    Calls Try.prog 63 #[.slice (some ad) cs.length cx] w fun e w' => ∃ d cd cur, e = .returned (.slice (some ⟨d, 0, none⟩) cs.length cd) ∧ w'.heap[d]? = some (.cells cur 5 (0, 0)) ∧ cs.length ≤ cd ∧ cd ≤ maxLen ∧ cur.size = cd ∧ cur.toList.take cs.length = cs.map cellOf ∧ w.heap.size ≤ d ∧ Below w.heap.size w w' := by
  have hb0 : Below w.heap.size w (w.alloc (.cells #[] 5)) := (Below.refl _ _).alloc (Nat.le_refl _) _
  have hx1 := hx.below hb0
  obtain ⟨i5, hi, hz0, hz1, hz2⟩ := info_parts Try.info5
  have key : ∃ d cd cur w', (Builtin.append_ #[22, 22] 22 #[.slice (some ⟨w.heap.size, 0, none⟩) 0 0, .slice (some ad) cs.length cx]).run Try.prog (w.alloc (.cells #[] 5)) = .ok (.slice (some ⟨d, 0, none⟩) cs.length cd) w' ∧
      w'.heap[d]? = some (.cells cur 5 (0, 0)) ∧ cs.length ≤ cd ∧ cd ≤ maxLen ∧ cur.size = cd ∧ cur.toList.take cs.length = cs.map cellOf ∧ w.heap.size ≤ d ∧ Below w.heap.size w w' := by
    by_cases h0 : cs = []
    · subst h0
      have := run_append_nothing (P := Try.prog) (w.alloc (.cells #[] 5)) 22 22 22 5 i5 Try.underlying22 hi (some ⟨w.heap.size, 0, none⟩) 0 0 (by simp) (.slice (some ad) 0 cx) (by rw [hz1]; exact hx1.src)
      exact ⟨w.heap.size, 0, #[], _, this, heap_alloc_new w _, by simp, by simp, rfl, rfl, Nat.le_refl _, hb0⟩
    · obtain ⟨v', w', hrun, ho, hbl⟩ := append_own_any (w.alloc (.cells #[] 5)) w.heap.size _ [] (own_empty w) (some ad) cx cs hx1 (by simpa using hb) (by simp)
      have hl : 0 < cs.length := List.length_pos_iff.2 h0
      rcases ho.2 with ⟨_, h1⟩ | ⟨d, cd, cur, rfl, hlow, hg, h4, h5, h6, h7⟩
      · simp at h1; exact absurd h1 h0
      · refine ⟨d, cd, cur, w', by simpa using hrun, hg, by simpa using h4, h5, by simpa using h6, by simpa using h7, hlow, hbl _ _ hb0 (Nat.le_refl _)⟩
  obtain ⟨d, cd, cur, w', hrun, h1, h2, h3, h4, h5, h6, h7⟩ := key
  have HR : Hid ((Builtin.append_ #[22, 22] 22 #[.slice (some ⟨w.heap.size, 0, none⟩) 0 0, .slice (some ad) cs.length cx]).run Try.prog (w.alloc (.cells #[] 5)) = .ok (.slice (some ⟨d, 0, none⟩) cs.length cd) w') := hrun
  have HE : Hid (w'.heap[d]? = some (.cells cur 5 (0, 0)) ∧ cs.length ≤ cd ∧ cd ≤ maxLen ∧ cur.size = cd ∧ cur.toList.take cs.length = cs.map cellOf ∧ w.heap.size ≤ d ∧ Below w.heap.size w w') := ⟨h1, h2, h3, h4, h5, h6, h7⟩
  have hq := Lib.run_eql_slice_nil (P := Try.prog) w 22 5 (some ad) cs.length cx 0 0 Try.underlying22
  clear hrun h1 h2 h3 h4 h5 h6 h7 hi hz0 hz1 hz2 hx hx1
  go_enter Try.func63, Try.ntmps63
  go_wp2_with (at_builtin; refine wpList_append_run rfl _ _ 22 rfl _ _ _ rfl rfl HR.out ?_)
  go_ret
  exact ⟨d, cd, cur, rfl, HE.out⟩

theorem row_sees {w : World} {d cd : Nat} {cur : Array Value} {cs : List UInt8} (h1 : w.heap[d]? = some (.cells cur 5 (0, 0))) (h2 : cs.length ≤ cd) (h3 : cd ≤ maxLen) (h5 : cur.toList.take cs.length = cs.map cellOf) : Sees w (some ⟨d, 0, none⟩) cd cs := by
  refine ⟨h2, h3, by simp, fun _ => ⟨d, 0, rfl, fun i x hx => ?_⟩⟩
  rw [cell_of_row _ _ (0 + i) _ _ _ h1, Nat.zero_add]
  have h6 : (cs.map cellOf)[i]? = some (cellOf x) := by simp [hx]
  rw [← h5, List.getElem?_take] at h6
  split at h6
  · simpa [cellOf] using h6
  · simp at h6

/-- The bytes that Read tells. -/
def readL (s : PS) (a n : Int) : List UInt8 := if checkE s a n ≠ 0 then [] else (s.b.drop a.toNat).take n.toNat

theorem check_none {s : PS} {a n : Int} (h : checkE s a n = 0) : s.dead = false ∧ 0 ≤ a ∧ 0 ≤ n ∧ a + n ≤ s.b.length := by
  unfold checkE at h
  split at h
  · omega
  · rename_i hd
    split at h
    · omega
    · exact ⟨by simpa using hd, by omega, by omega, by omega⟩

theorem read_new (w : World) (g : Nat) (s : PS) (F : Nat → Prop) (h : PF w g s F) (a n : Int) (ha : (Lit.int .i64 a).wf = true) :
    Calls Try.prog 45 #[.pointer (some ⟨g, 0, none⟩), .int .i64 a, .int .i64 n] w fun e w' => ∃ d cd r E, Hid (r = readL s a n) ∧ Hid (E = checkE s a n) ∧ e = .returned (.tuple #[.slice d r.length cd, .int .i64 (E : Int)]) ∧ Sees w' d cd r ∧ Below w.heap.size w w' ∧ ∀ bb off, d = some ⟨bb, off, none⟩ → r ≠ [] → w.heap.size ≤ bb := by
  obtain ⟨q, cap, cur, h, hF, hq, hl⟩ := h
  have hck := check_ok w g s q cap cur h a n ha
  by_cases hc : checkE s a n = 0
  · obtain ⟨hd, ha0, hn0, hal⟩ := check_none hc
    obtain ⟨A, rfl⟩ : ∃ A : Nat, a = (A : Int) := ⟨a.toNat, by omega⟩
    obtain ⟨N, rfl⟩ : ∃ N : Nat, n = (N : Int) := ⟨n.toNat, by omega⟩
    have hAN : A + N ≤ s.b.length := by omega
    have hpt := part_ok w g s q cap cur h A N hAN
    obtain ⟨r, hr⟩ : ∃ r, r = readL s A N := ⟨_, rfl⟩
    have hr2 : r = (s.b.drop A).take N := by rw [hr]; unfold readL; rw [if_neg (by simp [hc])]; rfl
    have hrl : r.length = N := by rw [hr2]; simp; omega
    have hse : Sees w (some ⟨q, if N = 0 then 0 else A, none⟩) N r := by
      refine ⟨by omega, by have := h.room; have := h.fits; omega, by simp, fun hne => ?_⟩
      have hN : N ≠ 0 := by rintro rfl; exact hne (List.eq_nil_of_length_eq_zero hrl)
      rw [if_neg hN]
      refine ⟨q, A, rfl, fun i x hx => ?_⟩
      rw [hr2, List.getElem?_take] at hx
      split at hx
      · rw [List.getElem?_drop] at hx
        obtain ⟨b1, o1, he, hcl⟩ := h.sees.get hx
        simp only [Option.some.injEq, Addr.mk.injEq, and_true] at he
        obtain ⟨rfl, rfl⟩ := he
        rw [Nat.zero_add] at hcl; exact hcl
      · simp at hx
    have hcl := clone_own w _ N r hse (by have := h.small; omega)
    have ep : partV q A N = .slice (some ⟨q, if N = 0 then 0 else A, none⟩) r.length N := by unfold partV; rw [hrl]
    rw [← ep] at hcl
    have HR : Hid (r = readL s A N) := hr
    have HC : Hid (0 = checkE s A N) := hc.symm
    rw [hc] at hck
    clear h hl hF hq hc hal hAN hr hr2 hrl hse ep
    go_enter Try.func45, Try.ntmps45
    go_wp2_with fail
    refine hck.mono ?_
    rintro e w1 ⟨rfl, rfl⟩
    clear hck
    go_wp2_with fail
    refine hpt.mono ?_
    rintro e w2 ⟨rfl, rfl⟩
    clear hpt
    go_wp2_with fail
    refine hcl.mono ?_
    rintro e w3 ⟨d, cd, cur3, rfl, h1, h2, h3, h4, h5, h6, h7⟩
    have hs3 : Hid (Sees w3 (some ⟨d, 0, none⟩) cd r) := row_sees h1 h2 h3 h5
    have HB : Hid (Below w2.heap.size w2 w3 ∧ ∀ bb off, some (⟨d, 0, none⟩ : Addr) = some ⟨bb, off, none⟩ → r ≠ [] → w2.heap.size ≤ bb) := ⟨h7, fun bb off he _ => by
      simp only [Option.some.injEq, Addr.mk.injEq] at he; omega⟩
    clear hcl h1 h2 h3 h4 h5 h6 h7
    go_wp2
    go_ret2
    exact ⟨_, cd, r, 0, HR, HC, rfl, hs3.out, HB.out⟩
  · have HR : Hid ([] = readL s a n) := by unfold readL; rw [if_pos hc]; exact (rfl : ([] : List UInt8) = [])
    obtain ⟨E, hE⟩ : ∃ E, E = checkE s a n := ⟨_, rfl⟩
    rw [← hE] at hck hc
    have HC : Hid (E = checkE s a n) := hE
    have d0 : ((E : Int) == 0) = false := by simp; omega
    clear h hl hE
    go_enter Try.func45, Try.ntmps45
    go_wp2_with fail
    refine hck.mono ?_
    rintro e w1 ⟨rfl, rfl⟩
    clear hck
    go_wp2
    go_ret2
    exact ⟨none, 0, [], E, HR, HC, rfl, Sees.nil' _, Below.refl _ _, fun _ _ _ h => absurd rfl h⟩
theorem read_ok (w : World) (g : Nat) (s : PS) (F : Nat → Prop) (h : PF w g s F) (a n : Int) (ha : (Lit.int .i64 a).wf = true) :
    Calls Try.prog 45 #[.pointer (some ⟨g, 0, none⟩), .int .i64 a, .int .i64 n] w fun e w' => ∃ d cd r E, Hid (r = readL s a n) ∧ Hid (E = checkE s a n) ∧ e = .returned (.tuple #[.slice d r.length cd, .int .i64 (E : Int)]) ∧ Sees w' d cd r ∧ Below w.heap.size w w' := by
  refine (read_new w g s F h a n ha).mono ?_
  rintro e w' ⟨d, cd, r, E, h1, h2, h3, h4, h5, _⟩
  exact ⟨d, cd, r, E, h1, h2, h3, h4, h5⟩
end Go.Proofs.Ytjmbioedpghopaa

namespace Go.Proofs.Ytjmbioedpghopaa
open Go.ChangeShapes Go.WideShapes Go.ChangeAt Go.RowKit

theorem mul64_ok (w : World) (n : Nat) (hn : n ≤ 4096) : Calls Try.prog 62 #[.int .u64 1, .int .u64 (n : Int)] w fun e w' => e = .returned (.tuple #[.int .u64 0, .int .u64 (n : Int)]) ∧ w' = w := by
  have a1 : bits .and .u64 (n : Int) 4294967295 = (n : Int) := by
    have h := u64_and_nat n 4294967295 (by omega) (by omega)
    have h2 : n &&& 4294967295 = n := by
      have := Nat.and_two_pow_sub_one_eq_mod n 32
      simp only [Nat.reducePow, Nat.reduceSub] at this
      rw [this]; omega
    rw [h2] at h; exact h
  have a2 : bits .and .u64 1 4294967295 = 1 := by decide
  have a3 : bits .and .u64 0 4294967295 = 0 := by decide
  have d1 : (n : Int) / 4294967296 = 0 := by omega
  have d2 : (n : Int) / 2 ^ 32 = 0 := by omega
  go_enter Try.func62, Try.ntmps62
  go_wp2
  go_ret2
  exact ⟨rfl, rfl⟩
theorem mul_ok (w : World) (n : Nat) (hn : n ≤ 4096) : Calls Try.prog 44 #[.int .u64 1, .int .u64 (n : Int)] w fun e w' => e = .returned (.tuple #[.int .u64 0, .int .u64 (n : Int)]) ∧ w' = w := by
  have hm := mul64_ok w n hn
  go_enter Try.func44, Try.ntmps44
  go_wp2_with fail
  refine hm.mono ?_
  rintro e w1 ⟨rfl, rfl⟩
  go_wp2
  go_ret2
  exact ⟨rfl, rfl⟩

/-- n bytes, of which the first k are FF. -/
def filled (n k : Nat) : List UInt8 := List.replicate k 255 ++ List.replicate (n - k) 0
theorem filled_len (n k : Nat) (h : k ≤ n) : (filled n k).length = n := by simp [filled]; omega
theorem filled_more (n k c : Nat) (h : k + c ≤ n) (hc : c ≤ k) :
    (((filled n k).map cellOf).take k ++ ((List.replicate k (255 : UInt8)).take c).map cellOf ++ ((filled n k).map cellOf).drop (k + c)).toArray = ((filled n (k + c)).map cellOf).toArray := by
  congr 1
  rw [← List.map_take, ← List.map_drop, ← List.map_append, ← List.map_append]
  congr 1
  unfold filled
  rw [List.take_append_of_le_length (by simp), List.take_of_length_le (by simp), List.drop_append, List.drop_of_length_le (by simp), List.nil_append, List.take_replicate, Nat.min_eq_left hc, List.drop_replicate, List.length_replicate, List.replicate_append_replicate]
  congr 2; omega

set_option maxHeartbeats 1600000 in
set_option maxRecDepth 20000 in
theorem repeat_ok (w : World) (x : Option Addr) (hx : Sees w x 1 [255]) (n : Nat) (hn : n ≤ 4096) :
    Calls Try.prog 27 #[.slice x 1 1, .int .i64 (n : Int)] w fun e w' => e = .returned (.slice (some ⟨w.heap.size, 0, none⟩) n n) ∧ w'.heap[w.heap.size]? = some (.cells ((filled n n).map cellOf).toArray 5 (0, 0)) ∧ Below w.heap.size w w' := by
  have hm := mul_ok w n hn
  have dn : decide ((n : Int) < 0) = false := by simp
  have dl : decide ((9223372036854775807 : Int) < (n : Int)) = false := by simp; omega
  obtain ⟨i5, hi, hz0, hz1, hz2⟩ := info_parts Try.info5
  obtain ⟨M, hM⟩ : ∃ M, M = madeCells #[Value.int .u8 0] n := ⟨_, rfl⟩
  have hML : M.toList = (filled n 0).map cellOf := by rw [hM, made_bytes]; simp [filled]
  obtain ⟨W1, hW1⟩ : ∃ W1, W1 = w.alloc (.cells M 5) := ⟨_, rfl⟩
  have hmk : (Instr.makeSlice 22 (.int .i64 (n : Int)) (.int .i64 (n : Int))).run Try.prog w = .ok (.slice (some ⟨w.heap.size, 0, none⟩) n n) W1 := by
    have := run_make (P := Try.prog) w 22 5 i5 (.int .u8 0) Try.underlying22 hi hz0 .i64 .i64 n n (by omega) (by omega) (by rw [hz2]; omega) (by omega)
    rw [this, hW1, hM, hz1]
    simp [Value.cells]
  have hg1 : W1.heap[w.heap.size]? = some (.cells M 5 (0, 0)) := by rw [hW1]; exact heap_alloc_new w _
  have hb1 : Below w.heap.size w W1 := by rw [hW1]; exact (Below.refl _ _).alloc (Nat.le_refl _) _
  have hMs : M.size = n := by have := congrArg List.length hML; simp [filled] at this; exact this
  obtain ⟨k0, hk0⟩ : ∃ k0, k0 = min [(255 : UInt8)].length n := ⟨_, rfl⟩
  obtain ⟨W2, hrun, hg2, ap2, _⟩ := copy_row W1 w.heap.size 0 n n M hg1 (by omega) x 1 [255] (hx.below hb1) k0 hk0
  have hk1 : k0 ≤ n := by omega
  have hg2' : W2.heap[w.heap.size]? = some (.cells ((filled n k0).map cellOf).toArray 5 (0, 0)) := by
    rw [hg2, hML]
    congr 2
    simp only [List.length_singleton] at hk0
    have h01 : k0 = 0 ∨ k0 = 1 := by omega
    rcases h01 with rfl | rfl
    · simp
    · congr 1
      obtain ⟨m, rfl⟩ : ∃ m, n = m + 1 := ⟨n - 1, by omega⟩
      simp [filled, List.replicate_succ, cellOf]
  have hb2 : Below w.heap.size w W2 := ap2.below hb1 (fun k hk => by rw [hk]; exact Nat.le_refl _) hb1.size
  have HK : Hid (n ≠ 0 → k0 ≠ 0) := fun h => by simp only [List.length_singleton] at hk0; omega
  have hcp : (Builtin.copy_ #[22, 22] 3 #[.slice (some ⟨w.heap.size, 0, none⟩) n n, .slice x 1 1]).run Try.prog W1 = .ok (.int .i64 (k0 : Int)) W2 := hrun
  have HG2 : Hid (W2.heap[w.heap.size]? = some (.cells ((filled n k0).map cellOf).toArray 5 (0, 0)) ∧ Below w.heap.size w W2) := ⟨hg2', hb2⟩
  clear hx hi hz0 hz1 hz2 hM hML hW1 hg1 hb1 hMs hk0 hrun hg2 ap2 hg2' hb2
  go_enter Try.func27, Try.ntmps27
  go_wp2_with fail
  refine hm.mono ?_
  rintro e w1 ⟨rfl, rfl⟩
  clear hm
  go_wp2
  go_loopw [8] (fun i wr => ∃ k : Nat, k ≤ n ∧ (n ≠ 0 → k ≠ 0) ∧ i = .int .i64 (k : Int) ∧ wr.heap[w1.heap.size]? = some (.cells ((filled n k).map cellOf).toArray 5 (0, 0)) ∧ Below w1.heap.size w1 wr) (fun i _ => n - (intOf i).toNat)
  case atStart => exact ⟨k0, hk1, HK.out, rfl, HG2.out⟩
  case round =>
    obtain ⟨k, hk, hkn, rfl, hg, bel⟩ := hrel
    clear HK HG2 hcp hmk
    by_cases hlt : k < n
    · have hk0 : k ≠ 0 := hkn (by omega)
      obtain ⟨c, hc⟩ : ∃ c, c = min k (n - k) := ⟨_, rfl⟩
      have hszl : ((filled n k).map cellOf).toArray.size = n := by simp [filled_len n k hk]
      have hgD : wr.drew.heap[w1.heap.size]? = some (.cells ((filled n k).map cellOf).toArray 5 (0, 0)) := hg
      have hsD : Sees wr.drew (some ⟨w1.heap.size, 0, none⟩) n (List.replicate k (255 : UInt8)) := by
        refine ⟨by simpa using hk, by unfold maxLen; omega, by simp, fun _ => ⟨w1.heap.size, 0, rfl, fun i x hx => ?_⟩⟩
        rw [cell_of_row _ _ (0 + i) _ _ _ hgD, Nat.zero_add]
        have hik : i < k := by have := (List.getElem?_eq_some_iff.1 hx).1; simpa using this
        rw [List.getElem?_toArray, List.getElem?_map, filled, List.getElem?_append_left (by simpa using hik), hx]; rfl
      obtain ⟨W3, hrun, hg3, ap3, _⟩ := copy_row wr.drew w1.heap.size k (n - k) (n - k) _ hgD (by omega) _ n _ hsD c (by rw [hc, List.length_replicate])
      rw [List.length_replicate] at hrun
      have hg3' : W3.heap[w1.heap.size]? = some (.cells ((filled n (k + c)).map cellOf).toArray 5 (0, 0)) := by
        rw [hg3, ← filled_more n k c (by omega) (by omega)]
      have bel3 : Below w1.heap.size w1 W3 := ap3.below bel.drew (fun i hi => by rw [hi]; exact Nat.le_refl _) bel.size
      have HR : Hid ((Builtin.copy_ #[22, 22] 3 #[.slice (some ⟨w1.heap.size, k, none⟩) (n - k) (n - k), .slice (some ⟨w1.heap.size, 0, none⟩) k n]).run Try.prog wr.drew = .ok (.int .i64 (c : Int)) W3) := hrun
      have HE : Hid (W3.heap[w1.heap.size]? = some (.cells ((filled n (k + c)).map cellOf).toArray 5 (0, 0)) ∧ Below w1.heap.size w1 W3) := ⟨hg3', bel3⟩
      have hnk : ¬ (n = k) := by omega
      have hkn2 : ¬ (k = n) := by omega
      have hkc : k + c ≤ n := by omega
      have hwr : IntKind.i64.wrap ((k : Int) + (c : Int)) = ((k + c : Nat) : Int) := by rw [IntKind.wrap_i64]; omega
      have HC : Hid (0 < c ∧ k + c ≤ n) := ⟨by omega, by omega⟩
      clear hszl hgD hsD hrun hg3 ap3 hg3' bel3 hg bel hc hkn hk0
      go_wp2
      refine wp_region_noPanic ?_
      refine wp_region_held (S := fun _ => True) (by kernel_rfl) ?_
      have hS := trivial
      refine any_take 0 ?vr9n1 rfl (by kernel_rfl) (by kernel_rfl) (by kernel_rfl) (fun _ _ _ h => h) (by rfl) ?hr9n1 hS ?_
      case hr9n1 => (intro w hSw; (try dsimp only at hSw); go_split_ands; go_simp; (try with_reducible rfl))
      (try simp only [Act.put, List.setIfInBounds_toArray, List.set_cons_zero, List.set_cons_succ])
      refine any_take 1 ?vr9n2 rfl (by kernel_rfl) (by kernel_rfl) (by kernel_rfl) (fun _ _ _ h => h) (by rfl) ?hr9n2 hS ?_
      case hr9n2 => (intro w hSw; (try dsimp only at hSw); go_split_ands; go_simp; (try with_reducible rfl))
      (try simp only [Act.put, List.setIfInBounds_toArray, List.set_cons_zero, List.set_cons_succ])
      refine any_take 2 ?vr9n3 rfl (by kernel_rfl) (by kernel_rfl) (by kernel_rfl) (fun _ _ _ h => h) (by rfl) ?hr9n3 hS ?_
      case hr9n3 => (intro w hSw; (try dsimp only at hSw); go_split_ands; go_simp; (try with_reducible rfl))
      (try simp only [Act.put, List.setIfInBounds_toArray, List.set_cons_zero, List.set_cons_succ])
      refine any_take 3 ?vr9n4 rfl (by kernel_rfl) (by kernel_rfl) (by kernel_rfl) (fun _ _ _ h => h) (by rfl) ?hr9n4 hS ?_
      case hr9n4 => (intro w hSw; (try dsimp only at hSw); go_split_ands; go_simp; (try with_reducible rfl))
      (try simp only [Act.put, List.setIfInBounds_toArray, List.set_cons_zero, List.set_cons_succ])
      refine any_take 4 ?vr9n5 rfl (by kernel_rfl) (by kernel_rfl) (by kernel_rfl) (fun _ _ _ h => h) (by rfl) ?hr9n5 hS ?_
      case hr9n5 => (intro w hSw; (try dsimp only at hSw); go_split_ands; go_simp; (try with_reducible rfl))
      (try simp only [Act.put, List.setIfInBounds_toArray, List.set_cons_zero, List.set_cons_succ])
      refine any_take 5 ?vr9n6 rfl (by kernel_rfl) (by kernel_rfl) (by kernel_rfl) (fun _ _ _ h => h) (by rfl) ?hr9n6 hS ?_
      case hr9n6 => (intro w hSw; (try dsimp only at hSw); go_split_ands; go_simp; (try with_reducible rfl))
      (try simp only [Act.put, List.setIfInBounds_toArray, List.set_cons_zero, List.set_cons_succ])
      refine any_take 6 ?vr9n7 rfl (by kernel_rfl) (by kernel_rfl) (by kernel_rfl) (fun _ _ _ h => h) (by rfl) ?hr9n7 hS ?_
      case hr9n7 => (intro w hSw; (try dsimp only at hSw); go_split_ands; go_simp; (try with_reducible rfl))
      (try simp only [Act.put, List.setIfInBounds_toArray, List.set_cons_zero, List.set_cons_succ])
      refine any_one 7 rfl (by kernel_rfl) (by rfl) (fun K hK => ?_)
      clear hS
      have hr := HR.out
      go_simp
      refine hK.out _ _ (trivial) (fun hS => ?_)
      clear hK
      (try simp only [Act.put, List.setIfInBounds_toArray, List.set_cons_zero, List.set_cons_succ])
      refine any_take 8 ?vr9n8 rfl (by kernel_rfl) (by kernel_rfl) (by kernel_rfl) (fun _ _ _ h => h) (by rfl) ?hr9n8 hS ?_
      case hr9n8 => (intro w hSw; (try dsimp only at hSw); go_split_ands; go_simp; (try with_reducible rfl))
      (try simp only [Act.put, List.setIfInBounds_toArray, List.set_cons_zero, List.set_cons_succ])
      refine any_take 9 ?vr9n9 rfl (by kernel_rfl) (by kernel_rfl) (by kernel_rfl) (fun _ _ _ h => h) (by rfl) ?hr9n9 hS ?_
      case hr9n9 => (intro w hSw; (try dsimp only at hSw); go_split_ands; go_simp; (try with_reducible rfl))
      (try simp only [Act.put, List.setIfInBounds_toArray, List.set_cons_zero, List.set_cons_succ])
      refine wpAnyH_done (by kernel_rfl) ?_ _
      refine NoPanic.normal ?_
      all_goals
        go_wp2
        go_roundw
        case rel => exact ⟨k + c, HC.out.2, fun _ => by have := HC.out.1; omega, by first | rfl | (rw [hwr]) | (congr 1; omega), HE.out⟩
        case measure => have := HC.out; simp [intOf]; omega
    · obtain rfl : k = n := by omega
      have HE : Hid (wr.heap[w1.heap.size]? = some (.cells ((filled k k).map cellOf).toArray 5 (0, 0)) ∧ Below w1.heap.size w1 wr) := ⟨hg, bel⟩
      clear hg bel hkn
      go_wp2
      go_ret
      exact ⟨rfl, HE.out⟩

theorem filled_all (n : Nat) : filled n n = List.replicate n 255 := by simp [filled]

/-- A new flash of n bytes. -/
def newS (n : Nat) : PS := ⟨List.replicate n 255, 0, false, 0, 0, false⟩

set_option maxHeartbeats 800000 in
set_option maxRecDepth 20000 in
theorem new_ok (w : World) (n : Nat) (hn : n ≤ 4096) :
    Calls Try.prog 7 #[.int .i64 (n : Int)] w fun e w' => ∃ g F, e = .returned (.tuple #[.pointer (some ⟨g, 0, none⟩), .int .i64 0]) ∧ PF w' g (newS n) F ∧ (∀ k, F k → w.heap.size ≤ k) ∧ Below w.heap.size w w' := by
  obtain ⟨W1, hW1⟩ : ∃ W1, W1 = w.alloc (.cells #[.int .u8 255] 5) := ⟨_, rfl⟩
  have hs1 : Sees W1 (some ⟨w.heap.size, 0, none⟩) 1 [255] := by rw [hW1]; exact sees_lit w [255] 5 (0, 0) (by simp)
  have hrp := repeat_ok W1 _ hs1 n hn
  have hb1 : Below w.heap.size w W1 := by rw [hW1]; exact (Below.refl _ _).alloc (Nat.le_refl _) _
  have HW : Hid (W1 = w.alloc (.cells #[.int .u8 255] 5)) := hW1
  have HF : Hid (∀ w2, w2.heap[W1.heap.size]? = some (.cells ((filled n n).map cellOf).toArray 5 (0, 0)) → Below W1.heap.size W1 w2 →
      ∃ F, PF (w2.alloc (.cells #[.bool true, .slice (some ⟨W1.heap.size, 0, none⟩) n n, .int .i64 0, .bool false, .int .i64 0, .int .i64 0, .bool false] 67)) w2.heap.size (newS n) F ∧ (∀ k, F k → w.heap.size ≤ k) ∧
        Below w.heap.size w (w2.alloc (.cells #[.bool true, .slice (some ⟨W1.heap.size, 0, none⟩) n n, .int .i64 0, .bool false, .int .i64 0, .int .i64 0, .bool false] 67))) := by
    intro w2 h1 h2
    have hq : W1.heap.size < w2.heap.size := (Array.getElem?_eq_some_iff.1 h1).1
    have hsz := hb1.size
    refine ⟨fun k => k = w2.heap.size ∨ k = W1.heap.size, ⟨W1.heap.size, n, ((filled n n).map cellOf).toArray, ⟨?_, ?_, ?_, ?_, ?_, ?_, ?_, ?_, ?_⟩, .inl rfl, .inr rfl, ?_⟩, ?_, ?_⟩
    · rw [heap_alloc_new]; simp [newS]
    · rw [((Below.refl _ w2).alloc (Nat.le_refl _) _).block _ hq]; exact h1
    · simp [newS]
    · unfold maxLen; omega
    · simp [filled_len n n (Nat.le_refl _)]
    · simp [newS, filled_all]
    · simpa [newS] using hn
    · simp [newS]
    · simp [newS]
    · rintro k (rfl | rfl)
      · simp
      · simp; omega
    · rintro k (rfl | rfl) <;> omega
    · exact (hb1.trans (h2.mono hsz)).alloc (by omega) _
  have d0 : decide ((n : Int) < 0) = false := by simp
  have d1 : decide ((4096 : Int) < (n : Int)) = false := by simp; omega
  clear hs1 hb1 hW1
  go_enter Try.func7, Try.ntmps7
  go_wp2_with fail
  rw [← HW.out]
  refine hrp.mono ?_
  rintro e w2 ⟨rfl, h1, h2⟩
  obtain ⟨F, x1, x2, x3⟩ := HF.out w2 h1 h2
  have HX : Hid (PF (w2.alloc (.cells #[.bool true, .slice (some ⟨W1.heap.size, 0, none⟩) n n, .int .i64 0, .bool false, .int .i64 0, .int .i64 0, .bool false] 67)) w2.heap.size (newS n) F ∧ (∀ k, F k → w.heap.size ≤ k) ∧
        Below w.heap.size w (w2.alloc (.cells #[.bool true, .slice (some ⟨W1.heap.size, 0, none⟩) n n, .int .i64 0, .bool false, .int .i64 0, .int .i64 0, .bool false] 67))) := ⟨x1, x2, x3⟩
  clear h1 h2 x1 x2 x3 HF hrp HW
  go_wp2
  go_ret2
  exact ⟨_, F, rfl, HX.out⟩

theorem new_refused (w : World) (n : Int) (hn : n < 0 ∨ 4096 < n) : Calls Try.prog 7 #[.int .i64 n] w fun e w' => e = .returned (.tuple #[.pointer none, .int .i64 1]) ∧ w' = w := by
  by_cases h0 : n < 0
  · have d0 : decide (n < 0) = true := by simp [h0]
    clear hn
    go_enter Try.func7, Try.ntmps7
    go_wp2
    go_ret2
    exact ⟨rfl, rfl⟩
  · have d0 : decide (n < 0) = false := by simp; omega
    have d1 : decide (4096 < n) = true := by simp; omega
    clear hn
    go_enter Try.func7, Try.ntmps7
    go_wp2
    go_ret2
    exact ⟨rfl, rfl⟩

end Go.Proofs.Ytjmbioedpghopaa

namespace Go.Proofs.Ytjmbioedpghopaa
open Go.ChangeShapes Go.WideShapes Go.ChangeAt Go.RowKit

/-- The flash at g holds s; it lies in memory that w0 has not; w0's own memory is as it was. -/
def Held (w0 w : World) (g : Nat) (s : PS) : Prop := ∃ F, PF w g s F ∧ (∀ k, F k → w0.heap.size ≤ k) ∧ Below w0.heap.size w0 w

theorem Held.base {w0 w : World} {g : Nat} {s : PS} (h : Held w0 w g s) : Below w0.heap.size w0 w := by obtain ⟨_, _, _, h⟩ := h; exact h
theorem Held.next {w0 w w' : World} {g : Nat} {s : PS} (h : Held w0 w g s) (hb : Below w.heap.size w w') : Held w0 w' g s := by
  obtain ⟨F, h1, h2, h3⟩ := h
  exact ⟨F, pf_kept.below h1 hb, h2, h3.trans (hb.mono h3.size)⟩
theorem Held.left {w0 w w' : World} {g : Nat} {s' : PS} {F : Nat → Prop} (h2 : ∀ k, F k → w0.heap.size ≤ k) (h3 : Below w0.heap.size w0 w) (hl : Left PF w F g s' w') : Held w0 w' g s' := by
  have hb := hl.below h3 h2 h3.size
  obtain ⟨F', k1, k2, k3⟩ := hl
  refine ⟨F', k1, fun k hk => ?_, hb⟩
  rcases k3 k hk with h | h
  · exact h2 k h
  · exact Nat.le_trans h3.size h

theorem sees_lt {w : World} {a : Option Addr} {ca : Nat} {b : List UInt8} (hs : Sees w a ca b) : ∀ bb off, a = some ⟨bb, off, none⟩ → b ≠ [] → bb < w.heap.size := fun bb off he hne => by
  obtain ⟨b2, o2, he2, hc2⟩ := hs.at' hne
  rw [he] at he2
  obtain ⟨rfl, rfl⟩ : bb = b2 ∧ off = o2 := by simpa using he2
  obtain ⟨y, hy⟩ : ∃ y, b[0]? = some y := by cases b with | nil => exact absurd rfl hne | cons y _ => exact ⟨y, rfl⟩
  exact World.block_lt_of_cell? w _ (hc2 0 y hy)

theorem new_held (w : World) (n : Nat) (hn : n ≤ 4096) : Calls Try.prog 7 #[.int .i64 (n : Int)] w fun e w' => ∃ g, e = .returned (.tuple #[.pointer (some ⟨g, 0, none⟩), .int .i64 0]) ∧ Held w w' g (newS n) := by
  refine (new_ok w n hn).mono ?_
  rintro e w' ⟨g, F, rfl, h1, h2, h3⟩
  exact ⟨g, rfl, F, h1, h2, h3⟩
theorem write_held {w0 w : World} {g : Nat} {s : PS} (h : Held w0 w g s) (hn : s.n ≤ 1000000) (a : Int) (ha : (Lit.int .i64 a).wf = true) (x : Option Addr) (cx : Nat) (l : List UInt8) (hx : Sees w0 x cx l) (E : Nat) (S : PS) (hE : E = writeE s a l) (hS : S = writeS s a l) :
    Calls Try.prog 9 #[.pointer (some ⟨g, 0, none⟩), .int .i64 a, .slice x l.length cx] w fun e w' => e = .returned (.int .i64 (E : Int)) ∧ Held w0 w' g S := by
  obtain ⟨F, h1, h2, h3⟩ := h
  subst hE hS
  refine (write_ok w g s F h1 hn a ha x cx l (hx.below h3) (fun bb off he hne hf => ?_)).mono ?_
  · have := h2 bb hf; have := sees_lt hx bb off he hne; omega
  · rintro e w' ⟨rfl, hl⟩
    exact ⟨rfl, Held.left h2 h3 hl⟩
theorem tear_held {w0 w : World} {g : Nat} {s : PS} (h : Held w0 w g s) (k n : Int) (hk : (Lit.int .i64 k).wf = true) (hn : (Lit.int .i64 n).wf = true) (S : PS) (hS : S = tearS s k n) :
    Calls Try.prog 14 #[.pointer (some ⟨g, 0, none⟩), .int .i64 k, .int .i64 n] w fun e w' => (∃ v, e = .returned v) ∧ Held w0 w' g S := by
  obtain ⟨F, h1, h2, h3⟩ := h
  subst hS
  refine (tear_ok w g s F h1 k n hk hn).mono ?_
  rintro e w' ⟨he, hl⟩
  exact ⟨he, Held.left h2 h3 hl⟩
theorem wake_held {w0 w : World} {g : Nat} {s : PS} (h : Held w0 w g s) (S : PS) (hS : S = wakeS s) :
    Calls Try.prog 20 #[.pointer (some ⟨g, 0, none⟩)] w fun e w' => (∃ v, e = .returned v) ∧ Held w0 w' g S := by
  obtain ⟨F, h1, h2, h3⟩ := h
  subst hS
  refine (wake_ok w g s F h1).mono ?_
  rintro e w' ⟨he, hl⟩
  exact ⟨he, Held.left h2 h3 hl⟩
theorem read_held {w0 w : World} {g : Nat} {s : PS} (h : Held w0 w g s) (a n : Int) (ha : (Lit.int .i64 a).wf = true) (r : List UInt8) (E : Nat) (hr : r = readL s a n) (hE : E = checkE s a n) :
    Calls Try.prog 45 #[.pointer (some ⟨g, 0, none⟩), .int .i64 a, .int .i64 n] w fun e w' => ∃ d cd, e = .returned (.tuple #[.slice d r.length cd, .int .i64 (E : Int)]) ∧ Sees w' d cd r ∧ Held w0 w' g s ∧ Below w.heap.size w w' := by
  have h0 := h
  obtain ⟨F, h1, h2, h3⟩ := h
  refine (read_ok w g s F h1 a n ha).mono ?_
  rintro e w' ⟨d, cd, r', E', hr', hE', rfl, hs, hb⟩
  have e1 : r' = r := by rw [hr'.out, hr]
  have e2 : E' = E := by rw [hE'.out, hE]
  subst e1 e2
  exact ⟨d, cd, rfl, hs, h0.next hb, hb⟩
/-- .. and, beside it, bytes that were read of it. -/
def Beside (w0 w : World) (g : Nat) (s : PS) (d : Option Addr) (cd : Nat) (B : List UInt8) : Prop :=
  ∃ F, PF w g s F ∧ (∀ k, F k → w0.heap.size ≤ k) ∧ Below w0.heap.size w0 w ∧ Sees w d cd B ∧ ∀ bb off, d = some ⟨bb, off, none⟩ → B ≠ [] → ¬ F bb ∧ bb < w.heap.size
theorem Beside.held {w0 w : World} {g : Nat} {s : PS} {d : Option Addr} {cd : Nat} {B : List UInt8} (h : Beside w0 w g s d cd B) : Held w0 w g s := by
  obtain ⟨F, h1, h2, h3, _⟩ := h; exact ⟨F, h1, h2, h3⟩
theorem Beside.sees {w0 w : World} {g : Nat} {s : PS} {d : Option Addr} {cd : Nat} {B : List UInt8} (h : Beside w0 w g s d cd B) : Sees w d cd B := by
  obtain ⟨F, _, _, _, h4, _⟩ := h; exact h4
theorem Beside.left {w0 w w' : World} {g : Nat} {s' : PS} {d : Option Addr} {cd : Nat} {B : List UInt8} {F : Nat → Prop} (h2 : ∀ k, F k → w0.heap.size ≤ k) (h3 : Below w0.heap.size w0 w) (h4 : Sees w d cd B) (h5 : ∀ bb off, d = some ⟨bb, off, none⟩ → B ≠ [] → ¬ F bb ∧ bb < w.heap.size)
    (hl : Left PF w F g s' w') : Beside w0 w' g s' d cd B := by
  have hb := hl.below h3 h2 h3.size
  obtain ⟨F', k1, k2, k3⟩ := hl
  refine ⟨F', k1, fun k hk => ?_, hb, k2.sees h4 (fun bb off he hne => (h5 bb off he hne).1), fun bb off he hne => ⟨fun hf => ?_, Nat.lt_of_lt_of_le (h5 bb off he hne).2 k2.size⟩⟩
  · rcases k3 k hk with h | h
    · exact h2 k h
    · exact Nat.le_trans h3.size h
  · rcases k3 bb hf with h | h
    · exact (h5 bb off he hne).1 h
    · have := (h5 bb off he hne).2; omega
theorem read_beside {w0 w : World} {g : Nat} {s : PS} (h : Held w0 w g s) (a n : Int) (ha : (Lit.int .i64 a).wf = true) (r : List UInt8) (E : Nat) (hr : r = readL s a n) (hE : E = checkE s a n) :
    Calls Try.prog 45 #[.pointer (some ⟨g, 0, none⟩), .int .i64 a, .int .i64 n] w fun e w' => ∃ d cd, e = .returned (.tuple #[.slice d r.length cd, .int .i64 (E : Int)]) ∧ Beside w0 w' g s d cd r := by
  obtain ⟨F, h1, h2, h3⟩ := h
  refine (read_new w g s F h1 a n ha).mono ?_
  rintro e w' ⟨d, cd, r', E', hr', hE', rfl, hs, hb, hf⟩
  have e1 : r' = r := by rw [hr'.out, hr]
  have e2 : E' = E := by rw [hE'.out, hE]
  subst e1 e2
  exact ⟨d, cd, rfl, F, pf_kept.below h1 hb, h2, h3.trans (hb.mono h3.size), hs, fun bb off he hne => ⟨fun hF => by have := hf bb off he hne; have := pf_kept.lt h1 bb hF; omega, sees_lt hs bb off he hne⟩⟩
theorem write_beside {w0 w : World} {g : Nat} {s : PS} {d : Option Addr} {cd : Nat} {B : List UInt8} (h : Beside w0 w g s d cd B) (hn : s.n ≤ 1000000) (a : Int) (ha : (Lit.int .i64 a).wf = true) (x : Option Addr) (cx : Nat) (l : List UInt8) (hx : Sees w0 x cx l) (E : Nat) (S : PS) (hE : E = writeE s a l) (hS : S = writeS s a l) :
    Calls Try.prog 9 #[.pointer (some ⟨g, 0, none⟩), .int .i64 a, .slice x l.length cx] w fun e w' => e = .returned (.int .i64 (E : Int)) ∧ Beside w0 w' g S d cd B := by
  obtain ⟨F, h1, h2, h3, h4, h5⟩ := h
  subst hE hS
  refine (write_ok w g s F h1 hn a ha x cx l (hx.below h3) (fun bb off he hne hf => ?_)).mono ?_
  · have := h2 bb hf; have := sees_lt hx bb off he hne; omega
  · rintro e w' ⟨rfl, hl⟩
    exact ⟨rfl, Beside.left h2 h3 h4 h5 hl⟩
theorem tear_beside {w0 w : World} {g : Nat} {s : PS} {d : Option Addr} {cd : Nat} {B : List UInt8} (h : Beside w0 w g s d cd B) (k n : Int) (hk : (Lit.int .i64 k).wf = true) (hn : (Lit.int .i64 n).wf = true) (S : PS) (hS : S = tearS s k n) :
    Calls Try.prog 14 #[.pointer (some ⟨g, 0, none⟩), .int .i64 k, .int .i64 n] w fun e w' => (∃ v, e = .returned v) ∧ Beside w0 w' g S d cd B := by
  obtain ⟨F, h1, h2, h3, h4, h5⟩ := h
  subst hS
  refine (tear_ok w g s F h1 k n hk hn).mono ?_
  rintro e w' ⟨he, hl⟩
  exact ⟨he, Beside.left h2 h3 h4 h5 hl⟩
theorem wake_beside {w0 w : World} {g : Nat} {s : PS} {d : Option Addr} {cd : Nat} {B : List UInt8} (h : Beside w0 w g s d cd B) (S : PS) (hS : S = wakeS s) :
    Calls Try.prog 20 #[.pointer (some ⟨g, 0, none⟩)] w fun e w' => (∃ v, e = .returned v) ∧ Beside w0 w' g S d cd B := by
  obtain ⟨F, h1, h2, h3, h4, h5⟩ := h
  subst hS
  refine (wake_ok w g s F h1).mono ?_
  rintro e w' ⟨he, hl⟩
  exact ⟨he, Beside.left h2 h3 h4 h5 hl⟩
/-- An operation that converts, its run known. -/
theorem exec_conv {P : Program} {o : Oper} {a : Act} {w : World} (s d : TypeId) (x : Operand) (ho : o.op = .convert s d x) (v r : Value) (hx : a.eval x = v) (hrun : (Go.convert s d v).run P w = .ok r w) : (execOp a.eval o).run P w = .ok (.value r) w := by
  unfold execOp
  simp only [ho, hx, Sem.run_bind, hrun, Result.andThen_ok, Sem.run_pure]
end Go.Proofs.Ytjmbioedpghopaa
