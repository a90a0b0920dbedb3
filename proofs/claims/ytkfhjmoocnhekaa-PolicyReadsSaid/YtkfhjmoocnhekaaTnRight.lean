/- May a tenant be? -/
import Derived.Test.YtkfhjmoocnhekaaTnMath
import Derived.Deep.RegionHeld3
namespace Go.Proofs.Ytkfhjmoocnhekaa
open Go.RowKit

/-- a box of four cells at block b, behind w -/
def TB4 (w : World) (b : Nat) (x0 x1 x2 x3 : Value) (W : World) : Prop := W.cell? ⟨b, 0, none⟩ = some x0 ∧ W.cell? ⟨b, 1, none⟩ = some x1 ∧ W.cell? ⟨b, 2, none⟩ = some x2 ∧ W.cell? ⟨b, 3, none⟩ = some x3 ∧ Below w.heap.size w W ∧ b < W.heap.size
section
variable {w W W' : World} {b : Nat} {x0 x1 x2 x3 : Value}
theorem TB4.below (h : W.cell? ⟨b, 0, none⟩ = some x0 ∧ W.cell? ⟨b, 1, none⟩ = some x1 ∧ W.cell? ⟨b, 2, none⟩ = some x2 ∧ W.cell? ⟨b, 3, none⟩ = some x3 ∧ Below w.heap.size w W ∧ b < W.heap.size) (hb : Below W.heap.size W W') :
    W'.cell? ⟨b, 0, none⟩ = some x0 ∧ W'.cell? ⟨b, 1, none⟩ = some x1 ∧ W'.cell? ⟨b, 2, none⟩ = some x2 ∧ W'.cell? ⟨b, 3, none⟩ = some x3 ∧ Below w.heap.size w W' ∧ b < W'.heap.size :=
  ⟨(hb.cell (p := ⟨b, 0, none⟩) h.2.2.2.2.2).trans h.1, (hb.cell (p := ⟨b, 1, none⟩) h.2.2.2.2.2).trans h.2.1, (hb.cell (p := ⟨b, 2, none⟩) h.2.2.2.2.2).trans h.2.2.1, (hb.cell (p := ⟨b, 3, none⟩) h.2.2.2.2.2).trans h.2.2.2.1, h.2.2.2.2.1.trans (hb.mono h.2.2.2.2.1.size), Nat.lt_of_lt_of_le h.2.2.2.2.2 hb.size⟩
end
/-- a row of one tenant that was just laid out -/
theorem ten_row (W : World) (F F' : Nat → Prop) (T : TV) (s1 s2 : SlT) (h : tenR.rd W F (tenC T s1 s2) T) (hF : ∀ b, F b → b < W.heap.size) (hF' : ∀ b, F b → F' b) (hn : F' W.heap.size) : RSl tenR (W.alloc (.cells (tenC T s1 s2).toArray 40)) F' (some ⟨W.heap.size, 0, none⟩) 1 1 [T] :=
  ⟨rfl, Nat.le_refl _, by unfold maxLen; omega, fun e => (by cases e), fun _ => ⟨W.heap.size, 0, rfl, hn, by simp, fun j x hx => by
    match j, hx with
    | 0, hx =>
      simp at hx
      subst hx
      refine ⟨tenC T s1 s2, tenR.keep h (fun b hb => Below.heap_alloc W _ b (hF b hb)) hF', fun i v hv => ?_⟩
      rw [World.cell?_alloc_new]
      simpa using hv
    | j + 1, hx => simp at hx⟩⟩
theorem right_rows (w W W1 W2 : World) (T U : TV) (A1 A2 : Option Addr) (n1 c1 c2 : Nat) (s5 s6 : SlT) (F : Nat → Prop) (h1 : RSl Rdr.str_ w F A1 n1 c1 T.devs) (h2 : RSl Rdr.str_ w F A2 n1 c2 T.ports) (hF : ∀ b, F b → b < w.heap.size) (BW : Below w.heap.size w W) (p m : Nat)
    (RU : tenR.rd W (fun b => p < b ∧ b < m) (tenC U s5 s6) U) (SZ : m ≤ W.heap.size) (hW1 : W.alloc (.cells (tenC T ⟨A1, n1, c1⟩ ⟨A2, n1, c2⟩).toArray 40) = W1) (hW2 : W1.alloc (.cells (tenC U s5 s6).toArray 40) = W2) :
    RSl tenR W2 (allB W2) (some ⟨W.heap.size, 0, none⟩) 1 1 [T] ∧ RSl tenR W2 (allB W2) (some ⟨W1.heap.size, 0, none⟩) 1 1 [U] ∧ Below W.heap.size W W2 := by
  have z1 : W1.heap.size = W.heap.size + 1 := by rw [← hW1]; simp
  have z2 : W2.heap.size = W1.heap.size + 1 := by rw [← hW2]; simp
  have k1 : Below W1.heap.size W1 W2 := by rw [← hW2]; exact (Below.refl _ _).alloc (Nat.le_refl _) _
  have k0 : Below W.heap.size W W1 := by rw [← hW1]; exact (Below.refl _ _).alloc (Nat.le_refl _) _
  have hT : RSl tenR W1 (allB W1) (some ⟨W.heap.size, 0, none⟩) 1 1 [T] := by
    have := ten_row W F (allB W1) T ⟨A1, n1, c1⟩ ⟨A2, n1, c2⟩ ⟨⟨A1, n1, c1⟩, ⟨A2, n1, c2⟩, rfl, h1.below hF BW, h2.below hF BW⟩ (fun b hb => Nat.lt_of_lt_of_le (hF b hb) BW.size) (fun b hb => by have := hF b hb; have := BW.size; show b < W1.heap.size; omega) (by show _ < W1.heap.size; omega)
    rw [hW1] at this
    exact this
  have hU : RSl tenR W2 (allB W2) (some ⟨W1.heap.size, 0, none⟩) 1 1 [U] := by
    have := ten_row W1 (fun b => p < b ∧ b < m) (allB W2) U s5 s6 (tenR.keep RU (fun b hb => k0.block b (by omega)) (fun _ h => h)) (fun b hb => by have := hb.2; omega) (fun b hb => by have := hb.2; show b < W2.heap.size; omega) (by show _ < W2.heap.size; omega)
    rw [hW2] at this
    exact this
  exact ⟨hT.keep (fun b hb => k1.block b hb) (fun b hb => Nat.lt_of_lt_of_le hb k1.size), hU, trans_below k0 k1⟩
theorem tbox_new (W : World) : TBox (W.alloc (.cells #[.int .i64 0, .string ⟨#[]⟩, .slice none 0 0, .slice none 0 0] 40)) W.heap.size 0 [] (.slice none 0 0) (.slice none 0 0) := by constructor <;> simp [go_sem, str]
set_option maxRecDepth 20000 in
set_option maxHeartbeats 4000000 in
theorem rpright_yes (T : TV) (s1 s2 : SlT) (w : World) (F : Nat → Prop) (h1 : RSl Rdr.str_ w F s1.A s1.n s1.c T.devs) (h2 : RSl Rdr.str_ w F s2.A s2.n s2.c T.ports) (hF : ∀ b, F b → b < w.heap.size) (hs0 : T.name.length ≤ 1000) (hs1 : ∀ p ∈ T.devs, p.length ≤ 1000) (hs2 : ∀ p ∈ T.ports, p.length ≤ 1000) (hn : s1.n = s2.n) (hn2 : s1.n ≤ 16) (v : Bool) (hv : v = true ↔ RgT T) :
    Calls Try.prog 14 #[tenV T s1 s2] w fun e w' => e = .returned (.bool v) ∧ Below w.heap.size w w' := by
  have hs : ∀ p ∈ twF T, p.length ≤ 1000000 := by
    intro p hp
    unfold twF at hp
    rcases List.mem_cons.1 hp with rfl | hp
    · decide
    rcases List.mem_cons.1 hp with rfl | hp
    · omega
    obtain ⟨i, hi, rfl⟩ := List.mem_iff_getElem.1 hp
    rw [List.getElem_zipWith]
    rw [List.length_zipWith] at hi
    have a1 := hs1 _ (List.getElem_mem (l := T.devs) (n := i) (by omega))
    have a2 := hs2 _ (List.getElem_mem (l := T.ports) (n := i) (by omega))
    unfold dpF
    simp
    omega
  have WD := Lib.hid (fun (w' : World) (hb : Below w.heap.size w w') => rpwords_any T s1 s2 w' ((ssl_of h1).below hb) ((ssl_of h2).below hb) (fun p hp => by have := hs1 p hp; omega) (fun p hp => by have := hs2 p hp; omega) (by rw [h1.len]; omega))
  have RW := Lib.hid (fun A n c (w' : World) (h : SSl w' A n c (twF T)) => refRow_any A n c (twF T) T.row w' h (by rw [← h.len]; simp [twF]) hs)
  unfold RgT at hv
  unfold GotTn tenV at RW
  generalize rnT (twF T) T.row = U at *
  generalize rnE (twF T) = E at *
  obtain ⟨A1, n1, c1⟩ := s1
  obtain ⟨A2, n2, c2⟩ := s2
  simp only [] at h1 h2 hn hn2 WD
  subst hn
  have i0 : ¬ (16 : Int) < (n1 : Int) := by omega
  have q1 := h1.le
  have q2 := h1.cap
  have q3 := h2.le
  have q4 := h2.cap
  unfold tenV at WD ⊢
  simp only [] at WD ⊢
  have WD := Lib.hid (fun (w' : World) (hb : (w'.cell? ⟨w.heap.size, 0, none⟩ = some (.int .i64 T.row) ∧ w'.cell? ⟨w.heap.size, 1, none⟩ = some (.string (str T.name)) ∧ w'.cell? ⟨w.heap.size, 2, none⟩ = some (.slice A1 n1 c1) ∧ w'.cell? ⟨w.heap.size, 3, none⟩ = some (.slice A2 n1 c2) ∧ Below w.heap.size w w' ∧ w.heap.size < w'.heap.size)) => WD.out w' hb.2.2.2.2.1)
  go_enter Try.func14, Try.ntmps14
  go_wp2
  have S0 : TB4 w w.heap.size (.int .i64 T.row) (.string (str T.name)) (.slice A1 n1 c1) (.slice A2 n1 c2) (w.alloc (.cells #[.int .i64 T.row, .string (str T.name), .slice A1 n1 c1, .slice A2 n1 c2] 40)).drew := ⟨by simp, by simp, by simp, by simp, ((Below.refl _ _).alloc (Nat.le_refl _) _).drew, by simp⟩
  unfold TB4 at S0
  have SF0 := fun (w' : World) (hb : Below (w.alloc (.cells #[.int .i64 T.row, .string (str T.name), .slice A1 n1 c1, .slice A2 n1 c2] 40)).drew.heap.size (w.alloc (.cells #[.int .i64 T.row, .string (str T.name), .slice A1 n1 c1, .slice A2 n1 c2] 40)).drew w') => (TB4.below S0 hb).2.2.2.2.1
  have KS := fun (w' : World) (hb : Below (w.alloc (.cells #[.int .i64 T.row, .string (str T.name), .slice A1 n1 c1, .slice A2 n1 c2] 40)).drew.heap.size (w.alloc (.cells #[.int .i64 T.row, .string (str T.name), .slice A1 n1 c1, .slice A2 n1 c2] 40)).drew w') => TB4.below S0 hb
  go_region_held3 (fun w' => w'.cell? ⟨w.heap.size, 0, none⟩ = some (.int .i64 T.row) ∧ w'.cell? ⟨w.heap.size, 1, none⟩ = some (.string (str T.name)) ∧ w'.cell? ⟨w.heap.size, 2, none⟩ = some (.slice A1 n1 c1) ∧ w'.cell? ⟨w.heap.size, 3, none⟩ = some (.slice A2 n1 c2) ∧ Below w.heap.size w w' ∧ w.heap.size < w'.heap.size)
    (first
      | exact S0
      | (refine KS _ ?_; first
          | assumption
          | exact (Below.refl _ _).alloc (Nat.le_refl _) _
          | (refine Below.alloc ?_ ?_ _ <;> first | assumption | exact Below.size (by assumption))
          | (refine Below.setCell (Below.setCell (Below.setCell (Below.setCell ?_ ?_ _) ?_ _) ?_ _) ?_ _; assumption; all_goals first | assumption | exact Nat.le_refl _ | (simp <;> omega))))
    (first
      | (go_at_call 25; (with_reducible refine (WD.out _ (by assumption)).mono ?_); rintro e w2 ⟨A3, n3, c3, rfl, s3, b3⟩
         first
           | (have K3 : Below (w.alloc (.cells #[.int .i64 T.row, .string (str T.name), .slice A1 n1 c1, .slice A2 n1 c2] 40)).drew.heap.size (w.alloc (.cells #[.int .i64 T.row, .string (str T.name), .slice A1 n1 c1, .slice A2 n1 c2] 40)).drew w2 := b3
              have L3 : w.heap.size + 1 ≤ w2.heap.size := by have := K3.size; simpa using this)
           | (have K3 : Below (w.alloc (.cells #[.int .i64 T.row, .string (str T.name), .slice A1 n1 c1, .slice A2 n1 c2] 40)).drew.heap.size (w.alloc (.cells #[.int .i64 T.row, .string (str T.name), .slice A1 n1 c1, .slice A2 n1 c2] 40)).drew w2 := ((Below.refl _ _).alloc (Nat.le_refl _) _).trans (b3.mono (by simp))
              have bx : TBox w2 (w.heap.size + 1) 0 [] (.slice none 0 0) (.slice none 0 0) := by
                have := (tbox_new (w.alloc (.cells #[.int .i64 T.row, .string (str T.name), .slice A1 n1 c1, .slice A2 n1 c2] 40)).drew).same (b3.block _ (by simp))
                simpa using this
              have L3 : w.heap.size + 1 ≤ w2.heap.size := by have := K3.size; simpa using this
              have L4 : w.heap.size + 2 ≤ w2.heap.size := by have := b3.size; simpa using this))
      | (go_at_call 21; (with_reducible refine (RW.out _ _ _ _ (by first | assumption | exact SSl.below (by assumption) ((Below.refl _ _).alloc (Nat.le_refl _) _))).mono ?_); rintro e w4 ⟨s5, s6, rfl, r4, b4⟩
         first
           | (have K4 : Below (w.alloc (.cells #[.int .i64 T.row, .string (str T.name), .slice A1 n1 c1, .slice A2 n1 c2] 40)).drew.heap.size (w.alloc (.cells #[.int .i64 T.row, .string (str T.name), .slice A1 n1 c1, .slice A2 n1 c2] 40)).drew w4 := Below.trans (by assumption) (b4.mono (Below.size (by assumption)))
              try
                have by_ : TBox w4 (w.heap.size + 1) 0 [] (.slice none 0 0) (.slice none 0 0) := TBox.same (w := w2) (by assumption) (b4.block _ (TBox.lt (by assumption)))
                have k0 := by_.c0
                have k1 := by_.c1
                have k2 := by_.c2
                have k3 := by_.c3
                have kf := by_.fz)
           | (have K4 : Below (w.alloc (.cells #[.int .i64 T.row, .string (str T.name), .slice A1 n1 c1, .slice A2 n1 c2] 40)).drew.heap.size (w.alloc (.cells #[.int .i64 T.row, .string (str T.name), .slice A1 n1 c1, .slice A2 n1 c2] 40)).drew w4 := Below.trans (K3.alloc K3.size _) (b4.mono (by simp; omega))
              have by_ := (tbox_new w2).same (b4.block _ (by simp))
              have k0 := by_.c0
              have k1 := by_.c1
              have k2 := by_.c2
              have k3 := by_.c3
              have kf := by_.fz)))
  · have TU : TBox (w4.alloc (.cells #[.int .i64 U.row, .string (str U.name), .slice s5.A s5.n s5.c, .slice s6.A s6.n s6.c] 40)) (w4.heap.size) U.row U.name (.slice s5.A s5.n s5.c) (.slice s6.A s6.n s6.c) := by constructor <;> simp [go_sem]
    have BF : Below w.heap.size w (w4.alloc (.cells #[.int .i64 U.row, .string (str U.name), .slice s5.A s5.n s5.c, .slice s6.A s6.n s6.c] 40)) := SF0 _ (K4.alloc K4.size _)
    have SF := KS (w4.alloc (.cells #[.int .i64 U.row, .string (str U.name), .slice s5.A s5.n s5.c, .slice s6.A s6.n s6.c] 40)) (K4.alloc K4.size _)
    have RU := tenR.keep (w' := w4.alloc (.cells #[.int .i64 U.row, .string (str U.name), .slice s5.A s5.n s5.c, .slice s6.A s6.n s6.c] 40)) (F' := fun b => w.heap.size < b ∧ b < w4.heap.size) r4 (fun b hb => Below.heap_alloc w4 _ b hb.2) (fun b hb => ⟨by have h1 : w2.heap.size ≤ b := hb.1; have := L3; omega, hb.2⟩)
    have SZ : w4.heap.size ≤ (w4.alloc (.cells #[.int .i64 U.row, .string (str U.name), .slice s5.A s5.n s5.c, .slice s6.A s6.n s6.c] 40)).heap.size := by simp
    generalize w4.alloc (.cells #[.int .i64 U.row, .string (str U.name), .slice s5.A s5.n s5.c, .slice s6.A s6.n s6.c] 40) = W at *
    obtain ⟨t0, t1, t2, t3, BW, lw⟩ := SF
    have EX := Lib.hid (fun W1 W2 hW1 hW2 => right_rows w W W1 W2 T U A1 A2 n1 c1 c2 s5 s6 F h1 h2 hF BW _ _ RU SZ hW1 hW2)
    have TUH := Lib.hid TU
    have BFH := Lib.hid BF
    by_cases hE : E = 0
    · have ee : (E == 0) = true := by simpa using hE
      have V1 := Lib.hid (show v = true ↔ [T] = [U] from hv.trans ⟨fun h => by rw [h.2.2.2], fun h => ⟨by rw [h1.len, h2.len], by rw [h1.len]; exact hn2, hE, (List.cons.inj h).1.symm⟩⟩)
      clear hv RU TU BF BW SZ h1 h2
      go_wp2_with (first
        | ((refine wpList_unguard ?hw (wpList_tenSl rfl (.tmp 29) rfl T ⟨A1, n1, c1⟩ ⟨A2, n1, c2⟩ ?hx ?_)); (case hw => rfl); (case hx => rfl); obtain ⟨W1, hW1⟩ : ∃ W1, W.alloc (.cells (tenC T ⟨A1, n1, c1⟩ ⟨A2, n1, c2⟩).toArray 40) = W1 := ⟨_, rfl⟩; rw [hW1]; have TU1 := TUH.out.same (w' := W1) (by rw [← hW1]; exact Below.heap_alloc W _ _ TUH.out.lt); have u0 := TU1.c0; have u1 := TU1.c1; have u2 := TU1.c2; have u3 := TU1.c3; have HW1 := Lib.hid hW1; clear hW1 TU1)
        | ((refine wpList_unguard ?hw (wpList_tenSl rfl (.tmp 31) rfl U s5 s6 ?hx ?_)); (case hw => rfl); (case hx => rfl); obtain ⟨W2, hW2⟩ : ∃ W2, W1.alloc (.cells (tenC U s5 s6).toArray 40) = W2 := ⟨_, rfl⟩; rw [hW2]; have RR := Lib.hid (EX.out W1 W2 HW1.out hW2); clear hW2)
        | (go_at_call 9; (with_reducible refine (rpexact_any _ 1 1 _ 1 1 [T] [U] _ _ _ (fun _ h => h) (fun _ h => h) RR.out.1 RR.out.2.1 v V1.out).mono ?_); rintro e w6 ⟨rfl, b6⟩))
      go_ret
      exact ⟨rfl, trans_below (trans_below BFH.out RR.out.2.2) b6⟩
    · have ee : (E == 0) = false := by simpa using hE
      obtain rfl : v = false := by
        cases v with
        | false => rfl
        | true => exact absurd (hv.1 rfl).2.2.1 hE
      clear hv RU TU BF BW SZ h1 h2
      go_wp2
      go_ret
      exact ⟨rfl, BFH.out⟩
  · have TU : TBox ((((w4.setCell ⟨w2.heap.size, 0, none⟩ (.int .i64 U.row)).setCell ⟨w2.heap.size, 1, none⟩ (.string (str U.name))).setCell ⟨w2.heap.size, 2, none⟩ (.slice s5.A s5.n s5.c)).setCell ⟨w2.heap.size, 3, none⟩ (.slice s6.A s6.n s6.c)) (w2.heap.size) U.row U.name (.slice s5.A s5.n s5.c) (.slice s6.A s6.n s6.c) := TBox.put4 by_ U.row U.name (.slice s5.A s5.n s5.c) (.slice s6.A s6.n s6.c)
    have BF : Below w.heap.size w ((((w4.setCell ⟨w2.heap.size, 0, none⟩ (.int .i64 U.row)).setCell ⟨w2.heap.size, 1, none⟩ (.string (str U.name))).setCell ⟨w2.heap.size, 2, none⟩ (.slice s5.A s5.n s5.c)).setCell ⟨w2.heap.size, 3, none⟩ (.slice s6.A s6.n s6.c)) := SF0 _ (Below.setCell (p := ⟨w2.heap.size, 3, none⟩) (Below.setCell (p := ⟨w2.heap.size, 2, none⟩) (Below.setCell (p := ⟨w2.heap.size, 1, none⟩) (Below.setCell (p := ⟨w2.heap.size, 0, none⟩) K4 (by have := L3; simp <;> omega) _) (by have := L3; simp <;> omega) _) (by have := L3; simp <;> omega) _) (by have := L3; simp <;> omega) _)
    have SF := KS ((((w4.setCell ⟨w2.heap.size, 0, none⟩ (.int .i64 U.row)).setCell ⟨w2.heap.size, 1, none⟩ (.string (str U.name))).setCell ⟨w2.heap.size, 2, none⟩ (.slice s5.A s5.n s5.c)).setCell ⟨w2.heap.size, 3, none⟩ (.slice s6.A s6.n s6.c)) (Below.setCell (p := ⟨w2.heap.size, 3, none⟩) (Below.setCell (p := ⟨w2.heap.size, 2, none⟩) (Below.setCell (p := ⟨w2.heap.size, 1, none⟩) (Below.setCell (p := ⟨w2.heap.size, 0, none⟩) K4 (by have := L3; simp <;> omega) _) (by have := L3; simp <;> omega) _) (by have := L3; simp <;> omega) _) (by have := L3; simp <;> omega) _)
    have RU := tenR.keep (w' := (((w4.setCell ⟨w2.heap.size, 0, none⟩ (.int .i64 U.row)).setCell ⟨w2.heap.size, 1, none⟩ (.string (str U.name))).setCell ⟨w2.heap.size, 2, none⟩ (.slice s5.A s5.n s5.c)).setCell ⟨w2.heap.size, 3, none⟩ (.slice s6.A s6.n s6.c)) (F' := fun b => w.heap.size < b ∧ b < w4.heap.size) r4 (fun b hb => by rw [Below.heap_setCell _ _ _ b (by show b ≠ w2.heap.size; have h1 : w2.heap.size < b := by { have := hb.1; rw [World.size_alloc] at this; exact this }; have := L3; omega), Below.heap_setCell _ _ _ b (by show b ≠ w2.heap.size; have h1 : w2.heap.size < b := by { have := hb.1; rw [World.size_alloc] at this; exact this }; have := L3; omega), Below.heap_setCell _ _ _ b (by show b ≠ w2.heap.size; have h1 : w2.heap.size < b := by { have := hb.1; rw [World.size_alloc] at this; exact this }; have := L3; omega), Below.heap_setCell _ _ _ b (by show b ≠ w2.heap.size; have h1 : w2.heap.size < b := by { have := hb.1; rw [World.size_alloc] at this; exact this }; have := L3; omega)]) (fun b hb => ⟨by have h1 : w2.heap.size < b := by { have := hb.1; rw [World.size_alloc] at this; exact this }; have := L3; omega, hb.2⟩)
    have SZ : w4.heap.size ≤ ((((w4.setCell ⟨w2.heap.size, 0, none⟩ (.int .i64 U.row)).setCell ⟨w2.heap.size, 1, none⟩ (.string (str U.name))).setCell ⟨w2.heap.size, 2, none⟩ (.slice s5.A s5.n s5.c)).setCell ⟨w2.heap.size, 3, none⟩ (.slice s6.A s6.n s6.c)).heap.size := by simp
    generalize (((w4.setCell ⟨w2.heap.size, 0, none⟩ (.int .i64 U.row)).setCell ⟨w2.heap.size, 1, none⟩ (.string (str U.name))).setCell ⟨w2.heap.size, 2, none⟩ (.slice s5.A s5.n s5.c)).setCell ⟨w2.heap.size, 3, none⟩ (.slice s6.A s6.n s6.c) = W at *
    obtain ⟨t0, t1, t2, t3, BW, lw⟩ := SF
    have EX := Lib.hid (fun W1 W2 hW1 hW2 => right_rows w W W1 W2 T U A1 A2 n1 c1 c2 s5 s6 F h1 h2 hF BW _ _ RU SZ hW1 hW2)
    have TUH := Lib.hid TU
    have BFH := Lib.hid BF
    by_cases hE : E = 0
    · have ee : (E == 0) = true := by simpa using hE
      have V1 := Lib.hid (show v = true ↔ [T] = [U] from hv.trans ⟨fun h => by rw [h.2.2.2], fun h => ⟨by rw [h1.len, h2.len], by rw [h1.len]; exact hn2, hE, (List.cons.inj h).1.symm⟩⟩)
      clear hv RU TU BF BW SZ h1 h2
      go_wp2_with (first
        | ((refine wpList_unguard ?hw (wpList_tenSl rfl (.tmp 29) rfl T ⟨A1, n1, c1⟩ ⟨A2, n1, c2⟩ ?hx ?_)); (case hw => rfl); (case hx => rfl); obtain ⟨W1, hW1⟩ : ∃ W1, W.alloc (.cells (tenC T ⟨A1, n1, c1⟩ ⟨A2, n1, c2⟩).toArray 40) = W1 := ⟨_, rfl⟩; rw [hW1]; have TU1 := TUH.out.same (w' := W1) (by rw [← hW1]; exact Below.heap_alloc W _ _ TUH.out.lt); have u0 := TU1.c0; have u1 := TU1.c1; have u2 := TU1.c2; have u3 := TU1.c3; have HW1 := Lib.hid hW1; clear hW1 TU1)
        | ((refine wpList_unguard ?hw (wpList_tenSl rfl (.tmp 31) rfl U s5 s6 ?hx ?_)); (case hw => rfl); (case hx => rfl); obtain ⟨W2, hW2⟩ : ∃ W2, W1.alloc (.cells (tenC U s5 s6).toArray 40) = W2 := ⟨_, rfl⟩; rw [hW2]; have RR := Lib.hid (EX.out W1 W2 HW1.out hW2); clear hW2)
        | (go_at_call 9; (with_reducible refine (rpexact_any _ 1 1 _ 1 1 [T] [U] _ _ _ (fun _ h => h) (fun _ h => h) RR.out.1 RR.out.2.1 v V1.out).mono ?_); rintro e w6 ⟨rfl, b6⟩))
      go_ret
      exact ⟨rfl, trans_below (trans_below BFH.out RR.out.2.2) b6⟩
    · have ee : (E == 0) = false := by simpa using hE
      obtain rfl : v = false := by
        cases v with
        | false => rfl
        | true => exact absurd (hv.1 rfl).2.2.1 hE
      clear hv RU TU BF BW SZ h1 h2
      go_wp2
      go_ret
      exact ⟨rfl, BFH.out⟩
  · have TU : TBox ((((w4.setCell ⟨(w.heap.size + 1), 0, none⟩ (.int .i64 U.row)).setCell ⟨(w.heap.size + 1), 1, none⟩ (.string (str U.name))).setCell ⟨(w.heap.size + 1), 2, none⟩ (.slice s5.A s5.n s5.c)).setCell ⟨(w.heap.size + 1), 3, none⟩ (.slice s6.A s6.n s6.c)) (w.heap.size + 1) U.row U.name (.slice s5.A s5.n s5.c) (.slice s6.A s6.n s6.c) := TBox.put4 by_ U.row U.name (.slice s5.A s5.n s5.c) (.slice s6.A s6.n s6.c)
    have BF : Below w.heap.size w ((((w4.setCell ⟨(w.heap.size + 1), 0, none⟩ (.int .i64 U.row)).setCell ⟨(w.heap.size + 1), 1, none⟩ (.string (str U.name))).setCell ⟨(w.heap.size + 1), 2, none⟩ (.slice s5.A s5.n s5.c)).setCell ⟨(w.heap.size + 1), 3, none⟩ (.slice s6.A s6.n s6.c)) := SF0 _ (Below.setCell (p := ⟨(w.heap.size + 1), 3, none⟩) (Below.setCell (p := ⟨(w.heap.size + 1), 2, none⟩) (Below.setCell (p := ⟨(w.heap.size + 1), 1, none⟩) (Below.setCell (p := ⟨(w.heap.size + 1), 0, none⟩) K4 (by have := L3; simp <;> omega) _) (by have := L3; simp <;> omega) _) (by have := L3; simp <;> omega) _) (by have := L3; simp <;> omega) _)
    have SF := KS ((((w4.setCell ⟨(w.heap.size + 1), 0, none⟩ (.int .i64 U.row)).setCell ⟨(w.heap.size + 1), 1, none⟩ (.string (str U.name))).setCell ⟨(w.heap.size + 1), 2, none⟩ (.slice s5.A s5.n s5.c)).setCell ⟨(w.heap.size + 1), 3, none⟩ (.slice s6.A s6.n s6.c)) (Below.setCell (p := ⟨(w.heap.size + 1), 3, none⟩) (Below.setCell (p := ⟨(w.heap.size + 1), 2, none⟩) (Below.setCell (p := ⟨(w.heap.size + 1), 1, none⟩) (Below.setCell (p := ⟨(w.heap.size + 1), 0, none⟩) K4 (by have := L3; simp <;> omega) _) (by have := L3; simp <;> omega) _) (by have := L3; simp <;> omega) _) (by have := L3; simp <;> omega) _)
    have RU := tenR.keep (w' := (((w4.setCell ⟨(w.heap.size + 1), 0, none⟩ (.int .i64 U.row)).setCell ⟨(w.heap.size + 1), 1, none⟩ (.string (str U.name))).setCell ⟨(w.heap.size + 1), 2, none⟩ (.slice s5.A s5.n s5.c)).setCell ⟨(w.heap.size + 1), 3, none⟩ (.slice s6.A s6.n s6.c)) (F' := fun b => w.heap.size < b ∧ b < w4.heap.size) r4 (fun b hb => by rw [Below.heap_setCell _ _ _ b (by show b ≠ (w.heap.size + 1); have h1 : w2.heap.size ≤ b := hb.1; have := L4; omega), Below.heap_setCell _ _ _ b (by show b ≠ (w.heap.size + 1); have h1 : w2.heap.size ≤ b := hb.1; have := L4; omega), Below.heap_setCell _ _ _ b (by show b ≠ (w.heap.size + 1); have h1 : w2.heap.size ≤ b := hb.1; have := L4; omega), Below.heap_setCell _ _ _ b (by show b ≠ (w.heap.size + 1); have h1 : w2.heap.size ≤ b := hb.1; have := L4; omega)]) (fun b hb => ⟨by have h1 : w2.heap.size ≤ b := hb.1; have := L3; omega, hb.2⟩)
    have SZ : w4.heap.size ≤ ((((w4.setCell ⟨(w.heap.size + 1), 0, none⟩ (.int .i64 U.row)).setCell ⟨(w.heap.size + 1), 1, none⟩ (.string (str U.name))).setCell ⟨(w.heap.size + 1), 2, none⟩ (.slice s5.A s5.n s5.c)).setCell ⟨(w.heap.size + 1), 3, none⟩ (.slice s6.A s6.n s6.c)).heap.size := by simp
    generalize (((w4.setCell ⟨(w.heap.size + 1), 0, none⟩ (.int .i64 U.row)).setCell ⟨(w.heap.size + 1), 1, none⟩ (.string (str U.name))).setCell ⟨(w.heap.size + 1), 2, none⟩ (.slice s5.A s5.n s5.c)).setCell ⟨(w.heap.size + 1), 3, none⟩ (.slice s6.A s6.n s6.c) = W at *
    obtain ⟨t0, t1, t2, t3, BW, lw⟩ := SF
    have EX := Lib.hid (fun W1 W2 hW1 hW2 => right_rows w W W1 W2 T U A1 A2 n1 c1 c2 s5 s6 F h1 h2 hF BW _ _ RU SZ hW1 hW2)
    have TUH := Lib.hid TU
    have BFH := Lib.hid BF
    by_cases hE : E = 0
    · have ee : (E == 0) = true := by simpa using hE
      have V1 := Lib.hid (show v = true ↔ [T] = [U] from hv.trans ⟨fun h => by rw [h.2.2.2], fun h => ⟨by rw [h1.len, h2.len], by rw [h1.len]; exact hn2, hE, (List.cons.inj h).1.symm⟩⟩)
      clear hv RU TU BF BW SZ h1 h2
      go_wp2_with (first
        | ((refine wpList_unguard ?hw (wpList_tenSl rfl (.tmp 29) rfl T ⟨A1, n1, c1⟩ ⟨A2, n1, c2⟩ ?hx ?_)); (case hw => rfl); (case hx => rfl); obtain ⟨W1, hW1⟩ : ∃ W1, W.alloc (.cells (tenC T ⟨A1, n1, c1⟩ ⟨A2, n1, c2⟩).toArray 40) = W1 := ⟨_, rfl⟩; rw [hW1]; have TU1 := TUH.out.same (w' := W1) (by rw [← hW1]; exact Below.heap_alloc W _ _ TUH.out.lt); have u0 := TU1.c0; have u1 := TU1.c1; have u2 := TU1.c2; have u3 := TU1.c3; have HW1 := Lib.hid hW1; clear hW1 TU1)
        | ((refine wpList_unguard ?hw (wpList_tenSl rfl (.tmp 31) rfl U s5 s6 ?hx ?_)); (case hw => rfl); (case hx => rfl); obtain ⟨W2, hW2⟩ : ∃ W2, W1.alloc (.cells (tenC U s5 s6).toArray 40) = W2 := ⟨_, rfl⟩; rw [hW2]; have RR := Lib.hid (EX.out W1 W2 HW1.out hW2); clear hW2)
        | (go_at_call 9; (with_reducible refine (rpexact_any _ 1 1 _ 1 1 [T] [U] _ _ _ (fun _ h => h) (fun _ h => h) RR.out.1 RR.out.2.1 v V1.out).mono ?_); rintro e w6 ⟨rfl, b6⟩))
      go_ret
      exact ⟨rfl, trans_below (trans_below BFH.out RR.out.2.2) b6⟩
    · have ee : (E == 0) = false := by simpa using hE
      obtain rfl : v = false := by
        cases v with
        | false => rfl
        | true => exact absurd (hv.1 rfl).2.2.1 hE
      clear hv RU TU BF BW SZ h1 h2
      go_wp2
      go_ret
      exact ⟨rfl, BFH.out⟩
end Go.Proofs.Ytkfhjmoocnhekaa
