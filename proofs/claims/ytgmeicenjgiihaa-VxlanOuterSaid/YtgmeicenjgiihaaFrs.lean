/- The contract of palingref04.Same. -/
import Derived.Test.YtgmeicenjgiihaaBsl
namespace Go.Proofs.Ytgmeicenjgiihaa
open Go.RowKit
open Go.Lib (byteCells)

/-- are two frames alike? -/
def smB (D S T : Int) (l : List UInt8) (D' S' T' : Int) (k : List UInt8) : Bool := (D == D') && ((S == S') && ((T == T') && (l == k)))
theorem smB_D {D S T : Int} {l : List UInt8} {D' S' T' : Int} {k : List UInt8} (h : (D == D') = false) : smB D S T l D' S' T' k = false := by simp [smB, h]
theorem smB_S {D S T : Int} {l : List UInt8} {D' S' T' : Int} {k : List UInt8} (h : (S == S') = false) : smB D S T l D' S' T' k = false := by simp [smB, h]
theorem smB_T {D S T : Int} {l : List UInt8} {D' S' T' : Int} {k : List UInt8} (h : (T == T') = false) : smB D S T l D' S' T' k = false := by simp [smB, h]
theorem smB_l {D S T : Int} {l k : List UInt8} : smB D S T l D S T k = (l == k) := by simp [smB]

set_option maxHeartbeats 1000000 in
theorem refSame_any (D S T : Int) (A : Option Addr) (n c : Nat) (l : List UInt8) (D' S' T' : Int) (B : Option Addr) (m d : Nat) (k : List UInt8) (w : World) (h : BSl w A n c l) (g : BSl w B m d k) :
    Calls Try.prog 16 #[.agg #[.int .u64 D, .int .u64 S, .int .i64 T, .slice A n c], .agg #[.int .u64 D', .int .u64 S', .int .i64 T', .slice B m d]] w fun e w' => e = .returned (.bool (smB D S T l D' S' T' k)) ∧ Below w.heap.size w w' := by
  by_cases hD : (D == D') = false
  · rw [smB_D hD]
    clear h g
    go_enter Try.func16, Try.ntmps16
    go_wp2
    go_ret
    exact ⟨rfl, two_alloc _ _ _⟩
  · obtain rfl : D = D' := by simpa using hD
    clear hD
    by_cases hS : (S == S') = false
    · rw [smB_S hS]
      clear h g
      go_enter Try.func16, Try.ntmps16
      go_wp2
      go_ret
      exact ⟨rfl, two_alloc _ _ _⟩
    · obtain rfl : S = S' := by simpa using hS
      clear hS
      by_cases hT : (T == T') = false
      · rw [smB_T hT]
        clear h g
        go_enter Try.func16, Try.ntmps16
        go_wp2
        go_ret
        exact ⟨rfl, two_alloc _ _ _⟩
      · obtain rfl : T = T' := by simpa using hT
        clear hT
        rw [smB_l]
        have r1 := run_string_bsl ((w.alloc (.cells #[.int .u64 D, .int .u64 S, .int .i64 T, .slice A n c] 37)).alloc (.cells #[.int .u64 D, .int .u64 S, .int .i64 T, .slice B m d] 37)) A n c l ((h.alloc _).alloc _)
        have r2 := run_string_bsl ((w.alloc (.cells #[.int .u64 D, .int .u64 S, .int .i64 T, .slice A n c] 37)).alloc (.cells #[.int .u64 D, .int .u64 S, .int .i64 T, .slice B m d] 37)) B m d k ((g.alloc _).alloc _)
        have E := Lib.hid (str_same l k)
        clear h g
        go_enter Try.func16, Try.ntmps16
        go_wp2
        go_ret
        exact ⟨by rw [← E.out]; rfl, two_alloc _ _ _⟩

theorem smB_self (D S T : Int) (l : List UInt8) : smB D S T l D S T l = true := by simp [smB]
theorem refSame_self (D S T : Int) (l : List UInt8) (A : Option Addr) (n c : Nat) (B : Option Addr) (m d : Nat) (w : World) (h : BSl w A n c l) (g : BSl w B m d l) :
    Calls Try.prog 16 #[.agg #[.int .u64 D, .int .u64 S, .int .i64 T, .slice A n c], .agg #[.int .u64 D, .int .u64 S, .int .i64 T, .slice B m d]] w fun e w' => e = .returned (.bool true) ∧ Below w.heap.size w w' := by
  have := refSame_any D S T A n c l D S T B m d l w h g
  rw [smB_self] at this
  exact this
end Go.Proofs.Ytgmeicenjgiihaa
