/- The contracts of ether.Same, ether.Copy and palingref04.Same. -/
import Derived.Test.YtojkcejpihomhaaFrm
namespace Go.Proofs.Ytojkcejpihomhaa
open Go.RowKit
open Go.Lib (byteCells)

/-- are two frames alike? -/
def smB (D S T : Int) (l : List UInt8) (D' S' T' : Int) (k : List UInt8) : Bool := (D == D') && ((S == S') && ((T == T') && (l == k)))
theorem smB_D {D S T : Int} {l : List UInt8} {D' S' T' : Int} {k : List UInt8} (h : (D == D') = false) : smB D S T l D' S' T' k = false := by simp [smB, h]
theorem smB_S {D S T : Int} {l : List UInt8} {D' S' T' : Int} {k : List UInt8} (h : (S == S') = false) : smB D S T l D' S' T' k = false := by simp [smB, h]
theorem smB_T {D S T : Int} {l : List UInt8} {D' S' T' : Int} {k : List UInt8} (h : (T == T') = false) : smB D S T l D' S' T' k = false := by simp [smB, h]
theorem smB_l {D S T : Int} {l k : List UInt8} : smB D S T l D S T k = (l == k) := by simp [smB]
theorem two_alloc (w : World) (o1 o2 : Obj) : Below w.heap.size w ((w.alloc o1).alloc o2) := ((Below.refl _ _).alloc (Nat.le_refl _) _).alloc (by simp) _

set_option maxHeartbeats 1000000 in
theorem same_any (D S T : Int) (A : Option Addr) (n c : Nat) (l : List UInt8) (D' S' T' : Int) (B : Option Addr) (m d : Nat) (k : List UInt8) (w : World) (h : BSl w A n c l) (g : BSl w B m d k) :
    Calls Try.prog 14 #[.agg #[.int .u64 D, .int .u64 S, .int .i64 T, .slice A n c], .agg #[.int .u64 D', .int .u64 S', .int .i64 T', .slice B m d]] w fun e w' => e = .returned (.bool (smB D S T l D' S' T' k)) ∧ Below w.heap.size w w' := by
  have H := Lib.hid h
  have G := Lib.hid g
  clear h g
  by_cases hD : (D == D') = false
  · rw [smB_D hD]
    go_enter Try.func14, Try.ntmps14
    go_wp2
    go_ret
    exact ⟨rfl, two_alloc _ _ _⟩
  · obtain rfl : D = D' := by simpa using hD
    clear hD
    by_cases hS : (S == S') = false
    · rw [smB_S hS]
      go_enter Try.func14, Try.ntmps14
      go_wp2
      go_ret
      exact ⟨rfl, two_alloc _ _ _⟩
    · obtain rfl : S = S' := by simpa using hS
      clear hS
      by_cases hT : (T == T') = false
      · rw [smB_T hT]
        go_enter Try.func14, Try.ntmps14
        go_wp2
        go_ret
        exact ⟨rfl, two_alloc _ _ _⟩
      · obtain rfl : T = T' := by simpa using hT
        clear hT
        rw [smB_l]
        go_enter Try.func14, Try.ntmps14
        go_wp2_with (go_at_call 19; (with_reducible refine (equal_any A n c l B m d k _ ((H.out.alloc _).alloc _) ((G.out.alloc _).alloc _)).mono ?_); rintro e w' ⟨rfl, rfl⟩)
        go_ret
        exact ⟨rfl, two_alloc _ _ _⟩
set_option maxHeartbeats 1000000 in
theorem refSame_any (D S T : Int) (A : Option Addr) (n c : Nat) (l : List UInt8) (D' S' T' : Int) (B : Option Addr) (m d : Nat) (k : List UInt8) (w : World) (h : BSl w A n c l) (g : BSl w B m d k) :
    Calls Try.prog 10 #[.agg #[.int .u64 D, .int .u64 S, .int .i64 T, .slice A n c], .agg #[.int .u64 D', .int .u64 S', .int .i64 T', .slice B m d]] w fun e w' => e = .returned (.bool (smB D S T l D' S' T' k)) ∧ Below w.heap.size w w' := by
  by_cases hD : (D == D') = false
  · rw [smB_D hD]
    clear h g
    go_enter Try.func10, Try.ntmps10
    go_wp2
    go_ret
    exact ⟨rfl, two_alloc _ _ _⟩
  · obtain rfl : D = D' := by simpa using hD
    clear hD
    by_cases hS : (S == S') = false
    · rw [smB_S hS]
      clear h g
      go_enter Try.func10, Try.ntmps10
      go_wp2
      go_ret
      exact ⟨rfl, two_alloc _ _ _⟩
    · obtain rfl : S = S' := by simpa using hS
      clear hS
      by_cases hT : (T == T') = false
      · rw [smB_T hT]
        clear h g
        go_enter Try.func10, Try.ntmps10
        go_wp2
        go_ret
        exact ⟨rfl, two_alloc _ _ _⟩
      · obtain rfl : T = T' := by simpa using hT
        clear hT
        rw [smB_l]
        have r1 := run_string_bsl ((w.alloc (.cells #[.int .u64 D, .int .u64 S, .int .i64 T, .slice A n c] 25)).alloc (.cells #[.int .u64 D, .int .u64 S, .int .i64 T, .slice B m d] 25)) A n c l ((h.alloc _).alloc _)
        have r2 := run_string_bsl ((w.alloc (.cells #[.int .u64 D, .int .u64 S, .int .i64 T, .slice A n c] 25)).alloc (.cells #[.int .u64 D, .int .u64 S, .int .i64 T, .slice B m d] 25)) B m d k ((g.alloc _).alloc _)
        have E := Lib.hid (str_same l k)
        clear h g
        go_enter Try.func10, Try.ntmps10
        go_wp2
        go_ret
        exact ⟨by rw [← E.out]; rfl, two_alloc _ _ _⟩

set_option maxHeartbeats 1000000 in
theorem copy_any (D S T : Int) (A : Option Addr) (n c : Nat) (l : List UInt8) (w : World) (hn : n ≤ 1000000) (h : BSl w A n c l) :
    Calls Try.prog 16 #[.agg #[.int .u64 D, .int .u64 S, .int .i64 T, .slice A n c]] w fun e w' => ∃ A' c', e = .returned (.agg #[.int .u64 D, .int .u64 S, .int .i64 T, .slice A' n c']) ∧
      w'.ownsRow w.heap.size 5 1 (.slice A' n c') n (byteCells l) ∧ Below w.heap.size w w' := by
  have H := Lib.hid h
  have B0 := Lib.hid (two_alloc w (.cells #[.int .u64 D, .int .u64 S, .int .i64 T, .slice A n c] 25) (.cells #[.int .u64 0, .int .u64 0, .int .i64 0, .slice none 0 0] 25))
  clear h
  go_enter Try.func16, Try.ntmps16
  go_wp2_with (go_at_call 20; (with_reducible refine (own_any A n c l _ hn ((H.out.alloc _).alloc _)).mono ?_); rintro e w2 ⟨v, rfl, hown, hb3⟩; obtain ⟨A', c', rfl⟩ := own_shape hown; obtain ⟨hc3, hf3⟩ := bcell hb3; have hz : w.heap.size < w.heap.size + 1 + 1 := by omega)
  have hB : Below w.heap.size w w2 := B0.out.trans (hb3.mono (by simp; omega))
  exact bodyPost_ret (v := .agg #[.int .u64 D, .int .u64 S, .int .i64 T, .slice A' n c']) (by simp [results, Try.results16, go_sem, hc3]) rfl
    ⟨A', c', rfl, own_base (own_far (own_far (own_far (own_far (own_far hown (by simp; omega) _) (by simp) _) (by simp) _) (by simp) _) (by simp) _) (by simp; omega),
      (((((hB.setCell (Nat.le_refl _) _).setCell (Nat.le_succ _) _).setCell (Nat.le_succ _) _).setCell (Nat.le_succ _) _).setCell (Nat.le_succ _) _)⟩
theorem smB_self (D S T : Int) (l : List UInt8) : smB D S T l D S T l = true := by simp [smB]
theorem refSame_self (D S T : Int) (l : List UInt8) (A : Option Addr) (n c : Nat) (B : Option Addr) (m d : Nat) (w : World) (h : BSl w A n c l) (g : BSl w B m d l) :
    Calls Try.prog 10 #[.agg #[.int .u64 D, .int .u64 S, .int .i64 T, .slice A n c], .agg #[.int .u64 D, .int .u64 S, .int .i64 T, .slice B m d]] w fun e w' => e = .returned (.bool true) ∧ Below w.heap.size w w' := by
  have := refSame_any D S T A n c l D S T B m d l w h g
  rw [smB_self] at this
  exact this
end Go.Proofs.Ytojkcejpihomhaa
