/-
  Both banks made; what both tell.
-/
import Derived.Test.YtgnllmcgebonpaaBankSolo
namespace Go.Proofs.Ytgnllmcgebonpaa
open Go.ChangeShapes Go.WideShapes Go.ChangeAt Go.RowKit

/-- Both flashes, and the program's bank. -/
def Trio (w0 w : World) (b g A N : Nat) (s : PS) (r : Nat) (t : RS) : Prop := ∃ F G, PF w g s F ∧ RF w r t G ∧ (∀ k, F k → ¬ G k) ∧ (∀ k, F k → w0.heap.size ≤ k) ∧ (∀ k, G k → w0.heap.size ≤ k) ∧ ¬ F b ∧ ¬ G b ∧ BA w b g A N ∧ Below w0.heap.size w0 w
theorem bnew_trio {w0 w : World} {g : Nat} {s : PS} {r : Nat} {t : RS} (h : Duo w0 w g s r t) (A N : Nat) (hm : mayB s.b.length A N) :
    Calls Try.prog 11 #[.pointer (some ⟨g, 0, none⟩), .int .i64 (A : Int), .int .i64 (N : Int)] w fun e w' => ∃ b, e = .returned (.tuple #[.pointer (some ⟨b, 0, none⟩), .int .i64 0]) ∧ Trio w0 w' b g A N s r t := by
  obtain ⟨⟨F, G, h1, h2, h3, h4, h5⟩, hb⟩ := h
  refine (bnew_ok w g s F h1 A N hm).mono ?_
  rintro e w' ⟨b, rfl, hbs, hba, hbe⟩
  refine ⟨b, rfl, F, G, pf_kept.below h1 hbe, rf_kept.below h2 hbe, h3, h4, h5, fun hF => ?_, fun hG => ?_, hba, hb.trans (hbe.mono hb.size)⟩
  · have := pf_kept.lt h1 b hF; omega
  · have := rf_kept.lt h2 b hG; omega
theorem rbnew_quad {w0 w : World} {b g A N : Nat} {s : PS} {r : Nat} {t : RS} (h : Trio w0 w b g A N s r t) (hsim : Sim s t) (hm : mayB s.b.length A N) (hs : s.b.length ≤ 4096) :
    Calls Try.prog 12 #[.pointer (some ⟨r, 0, none⟩), .int .i64 (A : Int), .int .i64 (N : Int)] w fun e w' => ∃ v, e = .returned (.tuple #[.pointer (some ⟨v, 0, none⟩), .int .i64 0]) ∧ Quad w0 w' b g v r A N s t := by
  obtain ⟨F, G, h1, h2, h3, h4, h5, h6, h7, h8, hb⟩ := h
  have hbt : t.b.length = s.b.length := by rw [hsim.b]
  refine (rbnew_ok w r t G h2 A N (by rw [hbt]; exact hm)).mono ?_
  rintro e w' ⟨v, rfl, hvs, hba, hbe⟩
  obtain ⟨m1, m2, m3, m4⟩ := hm
  refine ⟨v, rfl, F, G, ⟨pf_kept.below h1 hbe, h8.below hbe, by omega, by omega, hs⟩, ⟨rf_kept.below h2 hbe, hba, by omega, by omega, by omega⟩, h3, h4, h5, h6, h7, fun hF => ?_, fun hG => ?_, hb.trans (hbe.mono hb.size)⟩
  · have := pf_kept.lt h1 v hF; omega
  · have := rf_kept.lt h2 v hG; omega
theorem bnew_no_duo {w0 w : World} {g : Nat} {s : PS} {r : Nat} {t : RS} (h : Duo w0 w g s r t) (a n : Int) (ha : (Lit.int .i64 a).wf = true) (hn : (Lit.int .i64 n).wf = true) (hm : ¬ mayB s.b.length a n) :
    Calls Try.prog 11 #[.pointer (some ⟨g, 0, none⟩), .int .i64 a, .int .i64 n] w fun e w' => e = .returned (.tuple #[.pointer none, .int .i64 1]) ∧ Duo w0 w' g s r t := by
  obtain ⟨⟨F, G, h1, _⟩, _⟩ := id h
  refine (bnew_refused w g s F h1 a n ha hn hm).mono ?_
  rintro e w' ⟨rfl, hb⟩
  exact ⟨rfl, h.next hb⟩
theorem rbnew_no_duo {w0 w : World} {g : Nat} {s : PS} {r : Nat} {t : RS} (h : Duo w0 w g s r t) (hsim : Sim s t) (a n : Int) (ha : (Lit.int .i64 a).wf = true) (hn : (Lit.int .i64 n).wf = true) (hm : ¬ mayB s.b.length a n) :
    Calls Try.prog 12 #[.pointer (some ⟨r, 0, none⟩), .int .i64 a, .int .i64 n] w fun e w' => e = .returned (.tuple #[.pointer none, .int .i64 1]) ∧ w' = w := by
  obtain ⟨⟨F, G, h1, h2, _⟩, _⟩ := h
  exact rbnew_refused w r t G h2 a n ha hn (by rw [← hsim.b]; exact hm)

theorem pload_quad {w0 w : World} {b g v r A N : Nat} {s : PS} {t : RS} (h : Quad w0 w b g v r A N s t) (R : List UInt8) (E : Nat) (hR : R = loadL s A N) (hE : E = loadE s A N) :
    Calls Try.prog 19 #[.pointer (some ⟨b, 0, none⟩)] w fun e w' => ∃ d cd, e = .returned (.tuple #[.slice d R.length cd, .int .i64 (E : Int)]) ∧ Sees w' d cd R ∧ Below w.heap.size w w' := by
  obtain ⟨F, G, h⟩ := h; exact load_ok w b g A N s F h.p R E hR hE
theorem rload_quad {w0 w : World} {b g v r A N : Nat} {s : PS} {t : RS} (h : Quad w0 w b g v r A N s t) (hs : Sim s t) (R : List UInt8) (E : Nat) (hR : R = loadL s A N) (hE : E = loadE s A N) :
    Calls Try.prog 20 #[.pointer (some ⟨v, 0, none⟩)] w fun e w' => ∃ d cd, e = .returned (.tuple #[.slice d R.length cd, .int .i64 (E : Int)]) ∧ Sees w' d cd R ∧ Below w.heap.size w w' := by
  obtain ⟨F, G, h⟩ := h; exact rload_ok w v r A N t G h.q R E (by rw [hs.loadl]; exact hR) (by rw [hs.loade]; exact hE)
theorem pnum_quad {w0 w : World} {b g v r A N : Nat} {s : PS} {t : RS} (h : Quad w0 w b g v r A N s t) (z : Nat) (hz : z = numN s A N) : Calls Try.prog 21 #[.pointer (some ⟨b, 0, none⟩)] w fun e w' => e = .returned (.int .u32 (z : Int)) ∧ Below w.heap.size w w' := by
  obtain ⟨F, G, h⟩ := h; exact num_ok w b g A N s F h.p z hz
theorem rnum_quad {w0 w : World} {b g v r A N : Nat} {s : PS} {t : RS} (h : Quad w0 w b g v r A N s t) (hs : Sim s t) (z : Nat) (hz : z = numN s A N) : Calls Try.prog 22 #[.pointer (some ⟨v, 0, none⟩)] w fun e w' => e = .returned (.int .u32 (z : Int)) ∧ Below w.heap.size w w' := by
  obtain ⟨F, G, h⟩ := h; exact rnum_ok w v r A N t G h.q z (by rw [hs.num]; exact hz)
theorem pfresh_quad {w0 w : World} {b g v r A N : Nat} {s : PS} {t : RS} (h : Quad w0 w b g v r A N s t) (f : Bool) (hf : f = freshB s A N) : Calls Try.prog 23 #[.pointer (some ⟨b, 0, none⟩)] w fun e w' => e = .returned (.bool f) ∧ Below w.heap.size w w' := by
  obtain ⟨F, G, h⟩ := h; exact fresh_ok w b g A N s F h.p f hf
theorem rfresh_quad {w0 w : World} {b g v r A N : Nat} {s : PS} {t : RS} (h : Quad w0 w b g v r A N s t) (hs : Sim s t) (f : Bool) (hf : f = freshB s A N) : Calls Try.prog 24 #[.pointer (some ⟨v, 0, none⟩)] w fun e w' => e = .returned (.bool f) ∧ Below w.heap.size w w' := by
  obtain ⟨F, G, h⟩ := h; exact rfresh_ok w v r A N t G h.q f (by rw [hs.fresh]; exact hf)
theorem psize_quad {w0 w : World} {b g v r A N : Nat} {s : PS} {t : RS} (h : Quad w0 w b g v r A N s t) : Calls Try.prog 25 #[.pointer (some ⟨b, 0, none⟩)] w fun e w' => e = .returned (.int .i64 (N : Int)) ∧ w' = w := by
  obtain ⟨F, G, h⟩ := h; exact size_ok w b g A N h.p.bk
end Go.Proofs.Ytgnllmcgebonpaa
