/-
  The contract of flash's Write.
-/
import Derived.Test.YtgnllmcgebonpaaFlashActs
namespace Go.Proofs.Ytgnllmcgebonpaa
open Go.ChangeShapes Go.WideShapes Go.ChangeAt Go.RowKit

/-- c bytes of l put at a place. -/
def putAt (b : List UInt8) (a c : Nat) (l : List UInt8) : List UInt8 := b.take a ++ l.take c ++ b.drop (a + c)

theorem putAt_len (b : List UInt8) (a c : Nat) (l : List UInt8) (h : a + c ≤ b.length) (hc : c ≤ l.length) : (putAt b a c l).length = b.length := by
  simp [putAt]; omega

theorem put_cells (C : List Value) (b : List UInt8) (a c : Nat) (l : List UInt8) (hC : C.take b.length = b.map cellOf) (h : a + c ≤ b.length) (hc : c ≤ l.length) (hn : b.length ≤ C.length) :
    (C.take a ++ (l.take c).map cellOf ++ C.drop (a + c)).take b.length = (putAt b a c l).map cellOf := by
  have h1 : C.take a = (b.take a).map cellOf := by rw [List.map_take, ← hC, List.take_take, Nat.min_eq_left (by omega)]
  have h2 : (C.drop (a + c)).take (b.length - (a + c)) = (b.drop (a + c)).map cellOf := by rw [List.map_drop, ← hC, List.drop_take]
  have l1 : (C.take a ++ (l.take c).map cellOf).length = a + c := by simp; omega
  rw [List.take_append, List.take_of_length_le (by omega), l1, h2, h1, putAt, List.map_append, List.map_append]

/-- What Write answers, and what it leaves. -/
def writeE (s : PS) (a : Int) (l : List UInt8) : Nat := if checkE s a l.length ≠ 0 then checkE s a l.length else if tornB s then 5 else 0
def writeS (s : PS) (a : Int) (l : List UInt8) : PS :=
  if checkE s a l.length ≠ 0 then s else { nextS s with b := putAt s.b a.toNat (cutN s l.length) l, n := s.n + 1, dead := s.dead || tornB s }

theorem check_zero {s : PS} {a n : Int} (h : checkE s a n = 0) : s.dead = false ∧ 0 ≤ a ∧ 0 ≤ n ∧ a + n ≤ s.b.length := by
  unfold checkE at h
  split at h
  · omega
  · rename_i hd
    split at h
    · omega
    · exact ⟨by simpa using hd, by omega, by omega, by omega⟩

set_option maxHeartbeats 1600000 in
set_option maxRecDepth 20000 in
theorem write_ok (w : World) (g : Nat) (s : PS) (F : Nat → Prop) (h : PF w g s F) (hn : s.n ≤ 1000000) (a : Int) (ha : (Lit.int .i64 a).wf = true) (x : Option Addr) (cx : Nat) (l : List UInt8) (hx : Sees w x cx l) (hxn : ∀ b off, x = some ⟨b, off, none⟩ → l ≠ [] → ¬ F b) :
    Calls Try.prog 9 #[.pointer (some ⟨g, 0, none⟩), .int .i64 a, .slice x l.length cx] w fun e w' => e = .returned (.int .i64 (writeE s a l : Int)) ∧ Left PF w F g (writeS s a l) w' := by
  have HK : Hid (Left PF w F g s w) := ⟨F, h, Apart.refl _ _, fun _ h => .inl h⟩
  obtain ⟨q, cap, cur, h, hF, hq, hl⟩ := h
  have hll : l.length ≤ 9223372036854775807 := by have := hx.fits; have := hx.room; unfold maxLen at this; omega
  have hck := check_ok w g s q cap cur h a l.length ha
  by_cases hc : checkE s a l.length = 0
  · obtain ⟨hd, ha0, _, hal⟩ := check_zero hc
    obtain ⟨A, rfl⟩ : ∃ A : Nat, a = (A : Int) := ⟨a.toNat, by omega⟩
    have hcut : cutN s l.length ≤ l.length := by unfold cutN; split <;> omega
    have hAl : A + l.length ≤ s.b.length := by omega
    obtain ⟨c, hcd⟩ : ∃ c, c = cutN s l.length := ⟨_, rfl⟩
    rw [← hcd] at hcut
    -- the writes counted
    have h1 := h.set 2 (.int .i64 ((s.n : Int) + 1)) { s with n := s.n + 1 } rfl h.kl h.ml (by simp)
    have hnx := next_ok _ g _ q cap cur h1 l.length hll
    have e1 : cutN { s with n := s.n + 1 } l.length = c := by rw [hcd]; rfl
    have e2 : tornB { s with n := s.n + 1 } = tornB s := rfl
    rw [e1, e2] at hnx
    have eW : writeE s (A : Int) l = if tornB s then 5 else 0 := by unfold writeE; rw [if_neg (by simp [hc])]
    have eS : writeS s (A : Int) l = { nextS s with b := putAt s.b A c l, n := s.n + 1, dead := s.dead || tornB s } := by
      unfold writeS; rw [if_neg (by simp [hc]), ← hcd]; rfl
    rw [hc] at hck
    have c2 := h.ns
    have f2 := h.lax 2
    have HFIN : Hid (∀ w2, PA w2 g (nextS { s with n := s.n + 1 }) q cap cur → Apart (fun i => i = g) (w.setCell ⟨g, 2, none⟩ (.int .i64 ((s.n : Int) + 1))) w2 →
        ∃ w3, (Builtin.copy_ #[22, 22] 3 #[partV q A c, .slice x l.length cx]).run Try.prog w2 = .ok (.int .i64 (c : Int)) w3 ∧ ∃ cur', PA w3 g { nextS s with b := putAt s.b A c l, n := s.n + 1 } q cap cur' ∧ Apart F w w3) := by
      intro w2 h2 ap2
      have ap2' : Apart F w w2 := (apart_set (Apart.refl _ _) hF _ _).trans ap2 (fun i hi => .inl (by rw [hi]; exact hF))
      have hx2 : Sees w2 x cx l := ap2'.sees hx hxn
      by_cases hc0 : c = 0
      · subst hc0
        refine ⟨w2, ?_, cur, ?_, ap2'⟩
        · have := copy_nil w2 (some ⟨q, 0, none⟩) 0 x cx l.length
          simpa [partV] using this
        · have : putAt s.b A 0 l = s.b := by simp [putAt]
          rw [this]; exact h2
      · have hsz : s.b.length ≤ cur.size := by rw [h.size]; exact h.fits
        obtain ⟨w3, hrun, hg3, ap3, _⟩ := copy_row w2 q A c c cur h2.bytes (by omega) x cx l hx2 c (by omega)
        refine ⟨w3, by unfold partV; rw [if_neg hc0]; exact hrun, _, ⟨?_, hg3, ?_, h.room, ?_, ?_, ?_, ?_, ?_⟩, ap2'.trans ap3 (fun i hi => .inl (by rw [hi]; exact hq))⟩
        · have hgs : g < w2.heap.size := (Array.getElem?_eq_some_iff.1 h2.row).1
          rw [ap3.block g hgs h.ne, h2.row, putAt_len _ _ _ _ (by omega) hcut]; rfl
        · show (putAt s.b A c l).length ≤ cap
          rw [putAt_len _ _ _ _ (by omega) hcut]; exact h.fits
        · have := h.size; simp; omega
        · show List.take (putAt s.b A c l).length _ = (putAt s.b A c l).map cellOf
          rw [putAt_len _ _ _ _ (by omega) hcut]
          exact put_cells cur.toList s.b A c l h.holds (by omega) hcut (by simpa using hsz)
        · show (putAt s.b A c l).length ≤ 4096
          rw [putAt_len _ _ _ _ (by omega) hcut]; exact h.small
        · exact h2.kl
        · exact h2.ml
    have HPT : Hid (∀ w2, PA w2 g (nextS { s with n := s.n + 1 }) q cap cur → Calls Try.prog 29 #[.pointer (some ⟨g, 0, none⟩), .int .i64 (A : Int), .int .i64 (c : Int)] w2 fun e w' => e = .returned (partV q A c) ∧ w' = w2) := fun w2 h2 =>
      part_ok w2 g _ q cap cur h2 A c (by show A + c ≤ s.b.length; omega)
    have HLF : Hid (∀ w3 cur' s', PA w3 g s' q cap cur' → Apart F w w3 → Left PF w F g s' w3) := fun w3 cur' s' h3 ap3 => h.left h3 hF hq hl ap3
    obtain ⟨E, hE⟩ : ∃ E, E = writeE s (A : Int) l := ⟨_, rfl⟩
    obtain ⟨S, hS⟩ : ∃ S, S = writeS s (A : Int) l := ⟨_, rfl⟩
    rw [← hE, ← hS]
    rw [eW] at hE
    rw [eS] at hS
    have HE0 : Hid (E = if tornB s then 5 else 0) := hE
    have HS0 : Hid (S = { nextS s with b := putAt s.b A c l, n := s.n + 1, dead := s.dead || tornB s }) := hS
    clear h1 e1 e2 eW eS hx hxn h hl hcd hc hAl hE hS
    go_enter Try.func9, Try.ntmps9
    go_wp2_with fail
    refine hck.mono ?_
    rintro e w1 ⟨rfl, rfl⟩
    clear hck
    go_wp2_with fail
    refine hnx.mono ?_
    rintro e w2 ⟨rfl, h2, ap2⟩
    clear hnx c2 f2
    go_wp2_with fail
    refine (HPT.out w2 h2).mono ?_
    rintro e w3 ⟨rfl, rfl⟩
    obtain ⟨w4, hrun, cur', h4, ap4⟩ := HFIN.out _ h2 ap2
    have HR : Hid ((Builtin.copy_ #[22, 22] 3 #[partV q A c, .slice x l.length cx]).run Try.prog w3 = .ok (.int .i64 (c : Int)) w4) := hrun
    have HL := HLF.out w4
    have c6 := h4.deads
    have f6 := h4.lax 6
    clear hrun h2 ap2 HPT HFIN
    cases ht : tornB s
    · have HE : Hid (Left PF w1 F g S w4) := by
        rw [HS0.out, ht, Bool.or_false]; exact HL _ _ h4 ap4
      clear HL h4 ap4 HLF
      have hr := HR.out
      go_wp2
      go_ret
      exact ⟨by rw [HE0.out, ht]; rfl, HE.out⟩
    · have HE : Hid (Left PF w1 F g S (w4.setCell ⟨g, 6, none⟩ (.bool true))) := by
        rw [HS0.out, ht, Bool.or_true]
        exact HLF.out _ _ _ (h4.set 6 (.bool true) { nextS s with b := putAt s.b A c l, n := s.n + 1, dead := true } rfl h4.kl h4.ml rfl) (apart_set ap4 hF 6 _)
      clear HL h4 ap4 HLF
      have hr := HR.out
      go_wp2
      go_ret
      exact ⟨by rw [HE0.out, ht]; rfl, HE.out⟩
  · have eW : writeE s a l = checkE s a l.length := by unfold writeE; rw [if_pos hc]
    have eS : writeS s a l = s := by unfold writeS; rw [if_pos hc]
    rw [eW, eS]
    obtain ⟨E, hE⟩ : ∃ E, E = checkE s a l.length := ⟨_, rfl⟩
    rw [← hE] at hck hc ⊢
    have d0 : ((E : Int) == 0) = false := by simp; omega
    clear h hl hx hxn eW eS hE
    go_enter Try.func9, Try.ntmps9
    go_wp2_with fail
    refine hck.mono ?_
    rintro e w1 ⟨rfl, rfl⟩
    clear hck
    go_wp2
    go_ret
    exact ⟨rfl, HK.out⟩
end Go.Proofs.Ytgnllmcgebonpaa
