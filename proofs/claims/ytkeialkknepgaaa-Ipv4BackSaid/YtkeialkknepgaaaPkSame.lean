/- The contracts of ipv4.Same and palingref07.Same. -/
import Derived.Test.YtkeialkknepgaaaPkBy
import Derived.Test.YtkeialkknepgaaaStr
namespace Go.Proofs.Ytkeialkknepgaaa
open Go.RowKit
open Go.Lib (byteCells)

/-- are two packets alike? -/
def pkB (T I L R S D : Int) (l : List UInt8) (T' I' L' R' S' D' : Int) (k : List UInt8) : Bool := (T == T') && ((I == I') && ((L == L') && ((R == R') && ((S == S') && ((D == D') && (l == k))))))
theorem pkB_T {T I L R S D : Int} {l : List UInt8} {T' I' L' R' S' D' : Int} {k : List UInt8} (h : (T == T') = false) : pkB T I L R S D l T' I' L' R' S' D' k = false := by simp [pkB, h]
theorem pkB_I {T I L R S D : Int} {l : List UInt8} {T' I' L' R' S' D' : Int} {k : List UInt8} (h : (I == I') = false) : pkB T I L R S D l T' I' L' R' S' D' k = false := by simp [pkB, h]
theorem pkB_L {T I L R S D : Int} {l : List UInt8} {T' I' L' R' S' D' : Int} {k : List UInt8} (h : (L == L') = false) : pkB T I L R S D l T' I' L' R' S' D' k = false := by simp [pkB, h]
theorem pkB_R {T I L R S D : Int} {l : List UInt8} {T' I' L' R' S' D' : Int} {k : List UInt8} (h : (R == R') = false) : pkB T I L R S D l T' I' L' R' S' D' k = false := by simp [pkB, h]
theorem pkB_S {T I L R S D : Int} {l : List UInt8} {T' I' L' R' S' D' : Int} {k : List UInt8} (h : (S == S') = false) : pkB T I L R S D l T' I' L' R' S' D' k = false := by simp [pkB, h]
theorem pkB_D {T I L R S D : Int} {l : List UInt8} {T' I' L' R' S' D' : Int} {k : List UInt8} (h : (D == D') = false) : pkB T I L R S D l T' I' L' R' S' D' k = false := by simp [pkB, h]
theorem pkB_l {T I L R S D : Int} {l k : List UInt8} : pkB T I L R S D l T I L R S D k = (l == k) := by simp [pkB]
theorem pkB_self (T I L R S D : Int) (l : List UInt8) : pkB T I L R S D l T I L R S D l = true := by simp [pkB]
set_option maxHeartbeats 1000000 in
theorem psame_any (T I L R S D : Int) (A : Option Addr) (n c : Nat) (l : List UInt8) (T' I' L' R' S' D' : Int) (B : Option Addr) (m d : Nat) (k : List UInt8) (w : World) (h : BSl w A n c l) (g : BSl w B m d k) :
    Calls Try.prog 16 #[.agg #[.int .i64 T, .int .i64 I, .int .i64 L, .int .i64 R, .int .u32 S, .int .u32 D, .slice A n c], .agg #[.int .i64 T', .int .i64 I', .int .i64 L', .int .i64 R', .int .u32 S', .int .u32 D', .slice B m d]] w fun e w' => e = .returned (.bool (pkB T I L R S D l T' I' L' R' S' D' k)) ∧ Below w.heap.size w w' := by
  have H := Lib.hid h
  have G := Lib.hid g
  clear h g
  by_cases hT : (T == T') = false
  · rw [pkB_T hT]
    go_enter Try.func16, Try.ntmps16
    go_wp2
    go_ret
    exact ⟨rfl, two_alloc _ _ _⟩
  · obtain rfl : T = T' := by simpa using hT
    clear hT
    by_cases hI : (I == I') = false
    · rw [pkB_I hI]
      go_enter Try.func16, Try.ntmps16
      go_wp2
      go_ret
      exact ⟨rfl, two_alloc _ _ _⟩
    · obtain rfl : I = I' := by simpa using hI
      clear hI
      by_cases hL : (L == L') = false
      · rw [pkB_L hL]
        go_enter Try.func16, Try.ntmps16
        go_wp2
        go_ret
        exact ⟨rfl, two_alloc _ _ _⟩
      · obtain rfl : L = L' := by simpa using hL
        clear hL
        by_cases hR : (R == R') = false
        · rw [pkB_R hR]
          go_enter Try.func16, Try.ntmps16
          go_wp2
          go_ret
          exact ⟨rfl, two_alloc _ _ _⟩
        · obtain rfl : R = R' := by simpa using hR
          clear hR
          by_cases hS : (S == S') = false
          · rw [pkB_S hS]
            go_enter Try.func16, Try.ntmps16
            go_wp2
            go_ret
            exact ⟨rfl, two_alloc _ _ _⟩
          · obtain rfl : S = S' := by simpa using hS
            clear hS
            by_cases hD : (D == D') = false
            · rw [pkB_D hD]
              go_enter Try.func16, Try.ntmps16
              go_wp2
              go_ret
              exact ⟨rfl, two_alloc _ _ _⟩
            · obtain rfl : D = D' := by simpa using hD
              clear hD
              rw [pkB_l]
              go_enter Try.func16, Try.ntmps16
              go_wp2_with (go_at_call 31; (with_reducible refine (equal_any A n c l B m d k _ ((H.out.alloc _).alloc _) ((G.out.alloc _).alloc _)).mono ?_); rintro e w' ⟨rfl, rfl⟩)
              go_ret
              exact ⟨rfl, two_alloc _ _ _⟩
set_option maxHeartbeats 1000000 in
theorem rsame_any (T I L R S D : Int) (A : Option Addr) (n c : Nat) (l : List UInt8) (T' I' L' R' S' D' : Int) (B : Option Addr) (m d : Nat) (k : List UInt8) (w : World) (h : BSl w A n c l) (g : BSl w B m d k) :
    Calls Try.prog 11 #[.agg #[.int .i64 T, .int .i64 I, .int .i64 L, .int .i64 R, .int .u32 S, .int .u32 D, .slice A n c], .agg #[.int .i64 T', .int .i64 I', .int .i64 L', .int .i64 R', .int .u32 S', .int .u32 D', .slice B m d]] w fun e w' => e = .returned (.bool (pkB T I L R S D l T' I' L' R' S' D' k)) ∧ Below w.heap.size w w' := by
  have H := Lib.hid h
  have G := Lib.hid g
  clear h g
  by_cases hT : (T == T') = false
  · rw [pkB_T hT]
    go_enter Try.func11, Try.ntmps11
    go_wp2
    go_ret
    exact ⟨rfl, two_alloc _ _ _⟩
  · obtain rfl : T = T' := by simpa using hT
    clear hT
    by_cases hI : (I == I') = false
    · rw [pkB_I hI]
      go_enter Try.func11, Try.ntmps11
      go_wp2
      go_ret
      exact ⟨rfl, two_alloc _ _ _⟩
    · obtain rfl : I = I' := by simpa using hI
      clear hI
      by_cases hL : (L == L') = false
      · rw [pkB_L hL]
        go_enter Try.func11, Try.ntmps11
        go_wp2
        go_ret
        exact ⟨rfl, two_alloc _ _ _⟩
      · obtain rfl : L = L' := by simpa using hL
        clear hL
        by_cases hR : (R == R') = false
        · rw [pkB_R hR]
          go_enter Try.func11, Try.ntmps11
          go_wp2
          go_ret
          exact ⟨rfl, two_alloc _ _ _⟩
        · obtain rfl : R = R' := by simpa using hR
          clear hR
          by_cases hS : (S == S') = false
          · rw [pkB_S hS]
            go_enter Try.func11, Try.ntmps11
            go_wp2
            go_ret
            exact ⟨rfl, two_alloc _ _ _⟩
          · obtain rfl : S = S' := by simpa using hS
            clear hS
            by_cases hD : (D == D') = false
            · rw [pkB_D hD]
              go_enter Try.func11, Try.ntmps11
              go_wp2
              go_ret
              exact ⟨rfl, two_alloc _ _ _⟩
            · obtain rfl : D = D' := by simpa using hD
              clear hD
              rw [pkB_l]
              have x1 := run_string_bsl ((w.alloc (.cells #[.int .i64 T, .int .i64 I, .int .i64 L, .int .i64 R, .int .u32 S, .int .u32 D, .slice A n c] 26)).alloc (.cells #[.int .i64 T, .int .i64 I, .int .i64 L, .int .i64 R, .int .u32 S, .int .u32 D, .slice B m d] 26)) A n c l ((H.out.alloc _).alloc _)
              have x2 := run_string_bsl ((w.alloc (.cells #[.int .i64 T, .int .i64 I, .int .i64 L, .int .i64 R, .int .u32 S, .int .u32 D, .slice A n c] 26)).alloc (.cells #[.int .i64 T, .int .i64 I, .int .i64 L, .int .i64 R, .int .u32 S, .int .u32 D, .slice B m d] 26)) B m d k ((G.out.alloc _).alloc _)
              have x3 := str_same l k
              go_enter Try.func11, Try.ntmps11
              go_wp2
              go_ret
              exact ⟨rfl, two_alloc _ _ _⟩
theorem psame_self (T I L R S D : Int) (l : List UInt8) (A : Option Addr) (n c : Nat) (B : Option Addr) (m d : Nat) (w : World) (h : BSl w A n c l) (g : BSl w B m d l) :
    Calls Try.prog 16 #[.agg #[.int .i64 T, .int .i64 I, .int .i64 L, .int .i64 R, .int .u32 S, .int .u32 D, .slice A n c], .agg #[.int .i64 T, .int .i64 I, .int .i64 L, .int .i64 R, .int .u32 S, .int .u32 D, .slice B m d]] w fun e w' => e = .returned (.bool true) ∧ Below w.heap.size w w' := by
  have := psame_any T I L R S D A n c l T I L R S D B m d l w h g
  rw [pkB_self] at this
  exact this
theorem rsame_self (T I L R S D : Int) (l : List UInt8) (A : Option Addr) (n c : Nat) (B : Option Addr) (m d : Nat) (w : World) (h : BSl w A n c l) (g : BSl w B m d l) :
    Calls Try.prog 11 #[.agg #[.int .i64 T, .int .i64 I, .int .i64 L, .int .i64 R, .int .u32 S, .int .u32 D, .slice A n c], .agg #[.int .i64 T, .int .i64 I, .int .i64 L, .int .i64 R, .int .u32 S, .int .u32 D, .slice B m d]] w fun e w' => e = .returned (.bool true) ∧ Below w.heap.size w w' := by
  have := rsame_any T I L R S D A n c l T I L R S D B m d l w h g
  rw [pkB_self] at this
  exact this
end Go.Proofs.Ytkeialkknepgaaa
