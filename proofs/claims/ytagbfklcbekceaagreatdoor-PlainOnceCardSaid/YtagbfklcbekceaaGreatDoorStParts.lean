/- A line's parts: what each word is to be, and its field (made by mk-stparts.py). -/
import Derived.Test.YtagbfklcbekceaaGreatDoorStWv
import Derived.Test.YtagbfklcbekceaaGreatDoorStSmall
namespace Go.Proofs.YtagbfklcbekceaaGreatDoor
open Go.RowKit

/-- parts that lie in a row of pairs -/
def PSl (w : World) (p : Nat) (A : Option Addr) (n c : Nat) (ps : List (Nat × Nat)) : Prop :=
  ps.length = n ∧ n ≤ c ∧ c ≤ maxLen ∧ (0 < n → ∃ b, A = some ⟨b, 0, none⟩ ∧ b < w.heap.size ∧ ∀ j, j < n → w.cell? ⟨b, j * 2, none⟩ = some (.int .i64 ((ps.getD j (0, 0)).1 : Int)) ∧ w.cell? ⟨b, j * 2 + 1, none⟩ = some (fval (ps.getD j (0, 0)).2 p))
def GotP (p : Nat) (ps : List (Nat × Nat)) (w : World) (e : Ending) (w' : World) : Prop :=
  ∃ A n c, e = .returned (.slice A n c) ∧ PSl w' p A n c ps ∧ Below w.heap.size w w' ∧ ∀ ad, A = some ad → w.heap.size ≤ ad.block
def pcells (p : Nat) : List (Nat × Nat) → List Value
  | [] => []
  | x :: r => .int .i64 (x.1 : Int) :: fval x.2 p :: pcells p r
theorem pcells_len (p : Nat) (ps : List (Nat × Nat)) : (pcells p ps).length = ps.length * 2 := by
  induction ps with
  | nil => rfl
  | cons x r ih => simp only [pcells, List.length_cons, ih]; omega
theorem pcells_at (p : Nat) (ps : List (Nat × Nat)) (j : Nat) (h : j < ps.length) : (pcells p ps)[j * 2]? = some (.int .i64 ((ps.getD j (0, 0)).1 : Int)) ∧ (pcells p ps)[j * 2 + 1]? = some (fval (ps.getD j (0, 0)).2 p) := by
  induction ps generalizing j with
  | nil => exact absurd h (by simp)
  | cons x r ih =>
    cases j with
    | zero => exact ⟨rfl, rfl⟩
    | succ j =>
      have := ih j (by simpa using h)
      rw [show (j + 1) * 2 = j * 2 + 1 + 1 by omega]
      exact this
theorem PSl.of_own {w : World} {B p g n c : Nat} {ps : List (Nat × Nat)} (hn : ps.length = n) (h : w.ownsRow B 75 2 (.slice (some ⟨g, 0, none⟩) n c) n (pcells p ps)) : PSl w p (some ⟨g, 0, none⟩) n c ps := by
  have hnc : n ≤ c ∧ c ≤ maxLen ∧ g < w.heap.size := by
    rcases h.2 with ⟨hv, _⟩ | ⟨g', cap, cur, hv, hB, hh, h1, h2, _⟩
    · cases hv
    · cases hv
      refine ⟨h1, h2, ?_⟩
      rcases Nat.lt_or_ge g w.heap.size with h' | h'
      · exact h'
      · rw [Array.getElem?_eq_none h'] at hh; cases hh
  refine ⟨hn, hnc.1, hnc.2.1, fun _ => ⟨g, rfl, hnc.2.2, fun j hj => ?_⟩⟩
  have := pcells_at p ps j (by omega)
  rw [h.cellAt (j * 2) (by omega), h.cellAt (j * 2 + 1) (by omega)]
  exact this
theorem GotP.lit {w : World} {p n : Nat} {ps : List (Nat × Nat)} (hn : ps.length = n) (hm : n ≤ 10) : GotP p ps w (.returned (.slice (some ⟨w.heap.size, 0, none⟩) n n)) (w.alloc (.cells (pcells p ps).toArray 75)) := by
  have O := World.ownsRow_lit (base := w.heap.size) (e := 75) (size := 2) w (pcells p ps).toArray n (Nat.le_refl _) (by unfold maxLen; omega) (by rw [List.size_toArray, pcells_len, hn])
  exact ⟨_, n, n, rfl, PSl.of_own hn O, (Below.refl _ _).alloc (Nat.le_refl _) _, fun ad h => by cases h; exact Nat.le_refl _⟩
theorem new2 (w : World) (o1 o2 : Obj) : ((w.alloc o1).alloc o2).heap[w.heap.size + 1]? = some o2 := by
  have := heap_alloc_new (w.alloc o1) o2
  rwa [show (w.alloc o1).heap.size = w.heap.size + 1 by simp] at this
theorem own_at2 {w : World} {B : Nat} {e : TypeId} {A : Option Addr} {n m c sz : Nat} {xs : List Value} (h : w.ownsRow B e sz (.slice A m c) n xs) (ad : Addr) (hA : A = some ad) : B ≤ ad.block := by
  rcases h.2 with ⟨hv, _⟩ | ⟨g, cap, cur, hv, hB, _⟩
  · injection hv with h1; rw [hA] at h1; cases h1
  · injection hv with h1; rw [hA] at h1; cases h1; exact hB
theorem Tryz.info75 : (Tryz.prog.info? 75).map (fun i => (i.zero, i.size, i.bytes)) = some (some (.agg #[.int .i64 0, .nilFunc]), 2, 16) := by kernel_rfl
set_option maxRecDepth 20000 in
set_option maxHeartbeats 2000000 in
theorem parts_1 (p : Nat) (tg : Bool) (w : World) (h : w.cell? ⟨p, 1, none⟩ = some (.int .i64 1)) : Calls Tryz.prog 33 #[.pointer (some ⟨p, 0, none⟩), .bool tg] w (GotP p (pts 1 tg) w) := by
  go_enter Tryz.func33, Tryz.ntmps33
  go_wp2
  go_ret
  exact GotP.lit (ps := [(0, 0), (2, 6), (7, 9)]) rfl (by decide)
set_option maxRecDepth 20000 in
set_option maxHeartbeats 2000000 in
theorem parts_3 (p : Nat) (tg : Bool) (w : World) (h : w.cell? ⟨p, 1, none⟩ = some (.int .i64 3)) : Calls Tryz.prog 33 #[.pointer (some ⟨p, 0, none⟩), .bool tg] w (GotP p (pts 3 tg) w) := by
  go_enter Tryz.func33, Tryz.ntmps33
  go_wp2
  go_ret
  exact GotP.lit (ps := [(0, 0), (0, 1), (0, 2), (0, 3)]) rfl (by decide)
set_option maxRecDepth 20000 in
set_option maxHeartbeats 2000000 in
theorem parts_4 (p : Nat) (tg : Bool) (w : World) (h : w.cell? ⟨p, 1, none⟩ = some (.int .i64 4)) : Calls Tryz.prog 33 #[.pointer (some ⟨p, 0, none⟩), .bool tg] w (GotP p (pts 4 tg) w) := by
  go_enter Tryz.func33, Tryz.ntmps33
  go_wp2
  go_ret
  exact GotP.lit (ps := [(0, 0), (4, 7), (7, 9), (0, 1)]) rfl (by decide)
set_option maxRecDepth 20000 in
set_option maxHeartbeats 2000000 in
theorem parts_5 (p : Nat) (tg : Bool) (w : World) (h : w.cell? ⟨p, 1, none⟩ = some (.int .i64 5)) : Calls Tryz.prog 33 #[.pointer (some ⟨p, 0, none⟩), .bool tg] w (GotP p (pts 5 tg) w) := by
  go_enter Tryz.func33, Tryz.ntmps33
  go_wp2
  go_ret
  exact GotP.lit (ps := [(0, 0), (8, 10)]) rfl (by decide)
set_option maxRecDepth 20000 in
set_option maxHeartbeats 2000000 in
theorem parts_6 (p : Nat) (tg : Bool) (w : World) (h : w.cell? ⟨p, 1, none⟩ = some (.int .i64 6)) : Calls Tryz.prog 33 #[.pointer (some ⟨p, 0, none⟩), .bool tg] w (GotP p (pts 6 tg) w) := by
  go_enter Tryz.func33, Tryz.ntmps33
  go_wp2
  go_ret
  exact GotP.lit (ps := [(0, 0), (4, 7), (6, 6)]) rfl (by decide)
set_option maxRecDepth 20000 in
set_option maxHeartbeats 2000000 in
theorem parts_7 (p : Nat) (tg : Bool) (w : World) (h : w.cell? ⟨p, 1, none⟩ = some (.int .i64 7)) : Calls Tryz.prog 33 #[.pointer (some ⟨p, 0, none⟩), .bool tg] w (GotP p (pts 7 tg) w) := by
  go_enter Tryz.func33, Tryz.ntmps33
  go_wp2
  go_ret
  exact GotP.lit (ps := [(0, 0), (6, 6), (12, 15)]) rfl (by decide)
set_option maxRecDepth 20000 in
set_option maxHeartbeats 2000000 in
theorem parts_8 (p : Nat) (tg : Bool) (w : World) (h : w.cell? ⟨p, 1, none⟩ = some (.int .i64 8)) : Calls Tryz.prog 33 #[.pointer (some ⟨p, 0, none⟩), .bool tg] w (GotP p (pts 8 tg) w) := by
  go_enter Tryz.func33, Tryz.ntmps33
  go_wp2
  go_ret
  exact GotP.lit (ps := [(0, 0), (0, 4), (11, 13), (11, 14)]) rfl (by decide)
set_option maxRecDepth 20000 in
set_option maxHeartbeats 2000000 in
theorem parts_9 (p : Nat) (tg : Bool) (w : World) (h : w.cell? ⟨p, 1, none⟩ = some (.int .i64 9)) : Calls Tryz.prog 33 #[.pointer (some ⟨p, 0, none⟩), .bool tg] w (GotP p (pts 9 tg) w) := by
  go_enter Tryz.func33, Tryz.ntmps33
  go_wp2
  go_ret
  exact GotP.lit (ps := [(0, 0), (4, 7), (0, 4), (9, 11)]) rfl (by decide)
set_option maxRecDepth 20000 in
set_option maxHeartbeats 2000000 in
theorem parts_2t (p : Nat) (w : World) (h : w.cell? ⟨p, 1, none⟩ = some (.int .i64 2)) : Calls Tryz.prog 33 #[.pointer (some ⟨p, 0, none⟩), .bool true] w (GotP p (pts 2 true) w) := by
  obtain ⟨i0, hi, hz0, hz1, hz2⟩ := info_parts Tryz.info75
  have Hi := Lib.hid hi; have Hz0 := Lib.hid hz0; have Hz1 := Lib.hid hz1; have Hz2 := Lib.hid hz2
  clear hi hz0 hz1 hz2
  have O := World.ownsRow_lit (base := w.heap.size) (e := 75) (size := 2) w (pcells p [(0, 0), (0, 1), (3, 8), (1, 5)]).toArray 4 (Nat.le_refl _) (by unfold maxLen; omega) (by rw [List.size_toArray, pcells_len]; rfl)
  go_enter Tryz.func33, Tryz.ntmps33
  go_wp2_with (at_builtin; refine wpList_append_lies _ rfl (.tmp 39) (.tmp 46) 69 rfl w.heap.size 75 i0 (.agg #[.int .i64 0, .nilFunc]) 2 16 Tryz.underlying69 Hi.out Hz0.out Hz1.out Hz2.out rfl (by decide) _ 4 (pcells p [(0, 0), (0, 1), (3, 8), (1, 5)]) (by rfl) (O.alloc _) ⟨w.heap.size + 1, 0, none⟩ 2 2 (pcells p [(5, 7), (10, 12)]) (by rfl) (by rw [pcells_len]; rfl) (World.news_of_block (new2 w _ _)) (by simp [pcells, fval, Value.oneCell']) (by decide) (by unfold maxLen; decide) (by decide) (by simp; omega) _ rfl ?_; intro g cap w3 hown3 hgrow3 _ _)
  have B3 := below_app (((Below.refl w.heap.size w).alloc (Nat.le_refl _) _).alloc (by simp) _) (O.alloc _) hgrow3
  go_ret
  exact ⟨_, 6, cap, rfl, PSl.of_own (ps := [(0, 0), (0, 1), (3, 8), (1, 5), (5, 7), (10, 12)]) rfl hown3, B3, own_at2 hown3⟩
set_option maxRecDepth 20000 in
set_option maxHeartbeats 2000000 in
theorem parts_2f (p : Nat) (w : World) (h : w.cell? ⟨p, 1, none⟩ = some (.int .i64 2)) : Calls Tryz.prog 33 #[.pointer (some ⟨p, 0, none⟩), .bool false] w (GotP p (pts 2 false) w) := by
  obtain ⟨i0, hi, hz0, hz1, hz2⟩ := info_parts Tryz.info75
  have Hi := Lib.hid hi; have Hz0 := Lib.hid hz0; have Hz1 := Lib.hid hz1; have Hz2 := Lib.hid hz2
  clear hi hz0 hz1 hz2
  have O := World.ownsRow_lit (base := w.heap.size) (e := 75) (size := 2) w (pcells p [(0, 0), (0, 1), (3, 8), (1, 5)]).toArray 4 (Nat.le_refl _) (by unfold maxLen; omega) (by rw [List.size_toArray, pcells_len]; rfl)
  go_enter Tryz.func33, Tryz.ntmps33
  go_wp2_with (at_builtin; refine wpList_append_lies _ rfl (.tmp 48) (.tmp 52) 69 rfl w.heap.size 75 i0 (.agg #[.int .i64 0, .nilFunc]) 2 16 Tryz.underlying69 Hi.out Hz0.out Hz1.out Hz2.out rfl (by decide) _ 4 (pcells p [(0, 0), (0, 1), (3, 8), (1, 5)]) (by rfl) (O.alloc _) ⟨w.heap.size + 1, 0, none⟩ 1 1 (pcells p [(4, 7)]) (by rfl) (by rw [pcells_len]; rfl) (World.news_of_block (new2 w _ _)) (by simp [pcells, fval, Value.oneCell']) (by decide) (by unfold maxLen; decide) (by decide) (by simp; omega) _ rfl ?_; intro g cap w3 hown3 hgrow3 _ _)
  have B3 := below_app (((Below.refl w.heap.size w).alloc (Nat.le_refl _) _).alloc (by simp) _) (O.alloc _) hgrow3
  go_ret
  exact ⟨_, 5, cap, rfl, PSl.of_own (ps := [(0, 0), (0, 1), (3, 8), (1, 5), (4, 7)]) rfl hown3, B3, own_at2 hown3⟩
set_option maxHeartbeats 1000000 in
theorem parts_no (k : Int) (hk : k < 1 ∨ 9 < k) (p : Nat) (tg : Bool) (w : World) (h : w.cell? ⟨p, 1, none⟩ = some (.int .i64 k)) : Calls Tryz.prog 33 #[.pointer (some ⟨p, 0, none⟩), .bool tg] w (GotP p (pts k tg) w) := by
  have E := Lib.hid (pts_no k tg hk)
  have d1 : (k == 1) = false := by rw [beq_eq_false_iff_ne]; omega
  have d2 : (k == 2) = false := by rw [beq_eq_false_iff_ne]; omega
  have d3 : (k == 3) = false := by rw [beq_eq_false_iff_ne]; omega
  have d4 : (k == 4) = false := by rw [beq_eq_false_iff_ne]; omega
  have d5 : (k == 5) = false := by rw [beq_eq_false_iff_ne]; omega
  have d6 : (k == 6) = false := by rw [beq_eq_false_iff_ne]; omega
  have d7 : (k == 7) = false := by rw [beq_eq_false_iff_ne]; omega
  have d8 : (k == 8) = false := by rw [beq_eq_false_iff_ne]; omega
  have d9 : (k == 9) = false := by rw [beq_eq_false_iff_ne]; omega
  clear hk
  go_enter Tryz.func33, Tryz.ntmps33
  go_wp2
  go_ret
  rw [E.out]
  exact ⟨none, 0, 0, rfl, ⟨rfl, Nat.le_refl _, Nat.zero_le _, fun h => absurd h (by omega)⟩, Below.refl _ _, fun ad h => by cases h⟩
theorem parts_any (k : Int) (p : Nat) (tg : Bool) (w : World) (h : w.cell? ⟨p, 1, none⟩ = some (.int .i64 k)) : Calls Tryz.prog 33 #[.pointer (some ⟨p, 0, none⟩), .bool tg] w (GotP p (pts k tg) w) := by
  by_cases k1 : k = 1
  · subst k1; exact parts_1 p tg w h
  by_cases k3 : k = 3
  · subst k3; exact parts_3 p tg w h
  by_cases k4 : k = 4
  · subst k4; exact parts_4 p tg w h
  by_cases k5 : k = 5
  · subst k5; exact parts_5 p tg w h
  by_cases k6 : k = 6
  · subst k6; exact parts_6 p tg w h
  by_cases k7 : k = 7
  · subst k7; exact parts_7 p tg w h
  by_cases k8 : k = 8
  · subst k8; exact parts_8 p tg w h
  by_cases k9 : k = 9
  · subst k9; exact parts_9 p tg w h
  by_cases k2 : k = 2
  · subst k2
    cases tg with
    | true => exact parts_2t p w h
    | false => exact parts_2f p w h
  exact parts_no k (by omega) p tg w h
end Go.Proofs.YtagbfklcbekceaaGreatDoor
