/- The contracts of ether.Take and palingref04.Take. -/
import Derived.Test.YtgmeicenjgiihaaBslMac
import Derived.Test.YtgmeicenjgiihaaFrm
import Derived.Test.YtgmeicenjgiihaaBsl
import Derived.Test.YtgmeicenjgiihaaSeq
namespace Go.Proofs.Ytgmeicenjgiihaa
open Go.RowKit
open Go.Lib (byteCells)

theorem ftake_short (A : Option Addr) (n c : Nat) (w : World) (h : n < 14) :
    Calls Try.prog 17 #[.slice A n c] w fun e w' => e = .returned (.tuple #[.agg #[.int .u64 0, .int .u64 0, .int .i64 0, .slice none 0 0], .int .i64 10]) ∧ Below w.heap.size w w' := by
  go_enter Try.func17, Try.ntmps17
  go_wp2
  exact bodyPost_ret (v := .tuple #[.agg #[.int .u64 0, .int .u64 0, .int .i64 0, .slice none 0 0], .int .i64 10]) (by simp [results, Try.results17, go_sem]) rfl ⟨rfl, (Below.refl _ _).alloc (Nat.le_refl _) _⟩
theorem ftake_long (A : Option Addr) (n c : Nat) (w : World) (h : 1518 < n) :
    Calls Try.prog 17 #[.slice A n c] w fun e w' => e = .returned (.tuple #[.agg #[.int .u64 0, .int .u64 0, .int .i64 0, .slice none 0 0], .int .i64 14]) ∧ Below w.heap.size w w' := by
  go_enter Try.func17, Try.ntmps17
  go_wp2
  exact bodyPost_ret (v := .tuple #[.agg #[.int .u64 0, .int .u64 0, .int .i64 0, .slice none 0 0], .int .i64 14]) (by simp [results, Try.results17, go_sem]) rfl ⟨rfl, (Below.refl _ _).alloc (Nat.le_refl _) _⟩
set_option maxHeartbeats 1000000 in
theorem ftake_mid (A : Option Addr) (n c : Nat) (l : List UInt8) (w : World) (h : BSl w A n c l) (h0 : 14 ≤ n) (h1 : n ≤ 1518) :
    Calls Try.prog 17 #[.slice A n c] w fun e w' => ∃ A' c', e = .returned (.tuple #[.agg #[.int .u64 (mbAt l 0), .int .u64 (mbAt l 6), .int .i64 (two l 12), .slice A' (n - 14) c'], .int .i64 0]) ∧
      w'.ownsRow w.heap.size 5 1 (.slice A' (n - 14) c') (n - 14) (byteCells (l.drop 14)) ∧ Below w.heap.size w w' := by
  have hle := h.le
  have hcap := h.cap
  obtain ⟨b, off, rfl, hb, hc⟩ := h.at_ (by omega)
  have H := Lib.hid h
  have hb2 := (Below.refl w.heap.size w).alloc (Nat.le_refl _) (.cells #[.int .u64 0, .int .u64 0, .int .i64 0, .slice none 0 0] 37)
  have c0 := (hb2.cell (p := ⟨b, off + 12, none⟩) hb).trans (hc 12 (by omega))
  have c1 := (hb2.cell (p := ⟨b, off + 13, none⟩) hb).trans (hc 13 (by omega))
  have x0 := bat_lo l 12
  have x1 := bat_hi l 12
  have y0 := bat_lo l 13
  have y1 := bat_hi l 13
  have E := Lib.hid (show two l 12 = bat l 12 * 256 + bat l 13 from rfl)
  generalize bat l 12 = x at x0 x1 c0 E
  generalize bat l 13 = y at y0 y1 c1 E
  clear h hc
  have o1 := or_i64 x y x0 x1 y0 y1
  go_enter Try.func17, Try.ntmps17
  go_wp2_with (first
    | (go_at_call 40; (with_reducible refine (mtake_of _ n c 0 0 l _ rfl (H.out.alloc _) (by omega)).mono ?_); rintro e w' ⟨rfl, rfl⟩)
    | (go_at_call 40; (with_reducible refine (mtake_of _ n c 6 6 l _ rfl (H.out.alloc _) (by omega)).mono ?_); rintro e w' ⟨rfl, rfl⟩))
  go_quiet (fail)
  go_wp2_with (first
    | (go_at_call 41; (with_reducible refine (own_any _ (n - 14) (c - 14) (l.drop 14) _ (by omega) (((H.out.cut (by omega)).alloc _).drewN _)).mono ?_); rintro e w2 ⟨v, rfl, hown, hb3⟩; obtain ⟨A', c', rfl⟩ := own_shape hown; obtain ⟨hc3, hf3⟩ := bcell hb3)
    | (go_at_call 41; (with_reducible refine (own_any _ (n - 14) 0 (l.drop 14) _ (by omega) (((H.out.cut_end (by omega) (by omega)).alloc _).drewN _)).mono ?_); rintro e w2 ⟨v, rfl, hown, hb3⟩; obtain ⟨A', c', rfl⟩ := own_shape hown; obtain ⟨hc3, hf3⟩ := bcell hb3))
  all_goals
    exact bodyPost_ret (v := .tuple #[.agg #[.int .u64 (mbAt l 0), .int .u64 (mbAt l 6), .int .i64 (x * 256 + y), .slice A' (n - 14) c'], .int .i64 0]) (by simp [results, Try.results17, go_sem, hc3]) rfl
      ⟨A', c', by rw [E.out], own_base (own_far (own_far (own_far (own_far hown (by simp) _) (by simp) _) (by simp) _) (by simp) _) (by simp), ((((Below.drawn hb2 _ hb3).setCell (Nat.le_refl _) _).setCell (Nat.le_refl _) _).setCell (Nat.le_refl _) _).setCell (Nat.le_refl _) _⟩
end Go.Proofs.Ytgmeicenjgiihaa
