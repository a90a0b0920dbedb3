/- Package plain: Words of any line that was read, Line, Text. The contracts of package plain. The contract of palinglaw13.works, the chapter's examples; the walk of PlainOnce. -/
import Derived.Test.YtagbfklcbekceaaGreatDoorPlWords
import Derived.Test.YtagbfklcbekceaaGreatDoorTxOwn
namespace Go.Proofs.YtagbfklcbekceaaGreatDoor
open Go.RowKit
open Go.Lib (byteCells)

theorem lim_num {n : Int} (h : 0 ≤ n ∧ n ≤ 16777216) : -9223372036854775808 ≤ n ∧ n ≤ 9223372036854775807 := by omega
set_option maxRecDepth 100000 in
set_option maxHeartbeats 4000000 in
theorem plport_any (L : LV) (s1 s2 s3 s4 : SlV) (w : World) (h : LRead w L s1 s2 s3 s4) (hw : Wrd L) (hk : Kd2 L.row L) (hl : LdT w) : Calls Tryz.prog 23 #[lineV L s1 s2 s3 s4] w (GotT w (wrW L)) := by
  have ok := hw.ok
  have k2 : L.kind = 2 := by obtain ⟨s, p, c, v, t, e, _⟩ := hk; rw [e]; rfl
  have bt : LsOk 4094 L.tagged := by obtain ⟨s, p, c, v, t, e, _, _, _, _, ht⟩ := hk; have e2 := congrArg LV.tagged e; dsimp only [LV.new] at e2; rw [e2]; exact ht
  have hc : -9223372036854775808 ≤ L.cost ∧ L.cost ≤ 9223372036854775807 := by have := ok.num.2.2.2.2.2.2.2; omega
  have hv : -9223372036854775808 ≤ L.vlan ∧ L.vlan ≤ 9223372036854775807 := by have := ok.num.2.2.2.2.2.1; omega
  by_cases ht : L.tagged = []
  · exact plport6 L s1 s2 s3 s4 w h hw ht (by unfold wrW; rw [if_neg (by omega), if_pos k2, if_pos ht]) hc hv hl
  · exact plport7 L s1 s2 s3 s4 w h hw ht (by
      unfold wrW
      rw [if_neg (by omega), if_pos k2, if_neg ht]
      unfold wvS wlS
      rw [if_neg ht]) hc hv (In64_of bt (by decide)) (by have := h.1.len; have := ok.lst.1; omega) hl
set_option maxRecDepth 100000 in
set_option maxHeartbeats 4000000 in
theorem plw2 (L : LV) (s1 s2 s3 s4 : SlV) (w : World) (h : LRead w L s1 s2 s3 s4) (hw : Wrd L) (hd : Kd2 L.row L) (hl : LdT w) : Calls Tryz.prog 14 #[lineV L s1 s2 s3 s4] w (GotT w (wrW L)) := by
  have P0 := Lib.hid (fun T => line_boxed w L s1 s2 s3 s4 T)
  have RT := Lib.hid (fun w' h => cright_any L s1 s2 s3 s4 w' h hw.ok)
  have PT := Lib.hid (fun w' h hl => plport_any L s1 s2 s3 s4 w' h hw hd hl)
  have hrg := hw.right
  rw [hrg] at RT
  have H := Lib.hid h
  have HL := Lib.hid hl
  have K1 := Lib.hid (show L.kind = 2 by obtain ⟨s, p, c, v, t, e, _⟩ := hd; rw [e]; rfl)
  clear h hl hw hd hrg
  rw [show lineV L s1 s2 s3 s4 = .agg #[.int .i64 L.row, .int .i64 L.kind, .string (str L.dev), .string (str L.port), .string (str L.peer), .string (str L.far), .string (str L.name), .int .u64 L.mac, .int .u32 L.addr, .int .i64 L.bits, .int .i64 L.vlan, .int .i64 L.num, .int .i64 L.cost, .slice s1.A s1.n s1.c, .slice s2.A s2.n s2.c, .slice s3.A s3.n s3.c, .slice s4.A s4.n s4.c] from rfl]
  go_enter Tryz.func14, Tryz.ntmps14
  go_wp2_with (first
    | ((with_reducible refine wpList_lineOf ?hg (.tmp 1) ?ho w.heap.size ?hx L s1 s2 s3 s4 (P0.out _) ?_); (case hg => rfl); (case ho => rfl); (case hx => rfl))
    | (go_at_call 19; (with_reducible refine (RT.out _ (H.out.below ((Below.refl _ _).alloc (Nat.le_refl _) _))).mono ?_); rintro e w1 ⟨rfl, b1⟩; have X1 := Lib.hid ((P0.out _).below (by omega) b1); have B1 := Lib.hid (((Below.refl _ _).alloc (Nat.le_refl _) _).trans (b1.mono (by simp))); have t1 := X1.out.cell 1 (by omega); rw [show lc L s1 s2 s3 s4 1 = .int .i64 2 by show Value.int .i64 L.kind = _; rw [K1.out]] at t1; clear b1)
    | ((with_reducible refine wpList_lineOf ?hg (.tmp 1) ?ho w.heap.size ?hx L s1 s2 s3 s4 X1.out ?_); (case hg => rfl); (case ho => rfl); (case hx => rfl))
    | (go_at_call 23; (with_reducible refine (PT.out _ (H.out.below B1.out) (HL.out.below B1.out)).mono ?_); rintro e w6 ⟨A6, n6, c6, rfl, s6, b6⟩))
  go_ret
  exact ⟨_, _, _, rfl, s6, trans_below B1.out b6⟩
theorem xplwords_any (L : LV) (s1 s2 s3 s4 : SlV) (w : World) (h : LRead w L s1 s2 s3 s4) (hw : Wrd L) (hl : LdT w) : Calls Tryz.prog 14 #[lineV L s1 s2 s3 s4] w (GotT w (wrW L)) := by
  have ok := hw.ok
  have hn := lim_num ok.num.2.2.2.2.2.2.1
  have hv : -9223372036854775808 ≤ L.vlan ∧ L.vlan ≤ 9223372036854775807 := by have := ok.num.2.2.2.2.2.1; omega
  rcases hw.row.1 with hd | ⟨hd, _⟩ | hd | hd | hd | hd | hd | hd | hd
  · have k : L.kind = 1 := by obtain ⟨s, a, m, e, _⟩ := hd; rw [e]; rfl
    exact plw1 L s1 s2 s3 s4 w h hw k (by unfold wrW; rw [if_pos k]) hn hl
  · exact plw2 L s1 s2 s3 s4 w h hw hd hl
  · have k : L.kind = 3 := by obtain ⟨s, p, q, r, e, _⟩ := hd; rw [e]; rfl
    exact plw3 L s1 s2 s3 s4 w h hw k (by unfold wrW; rw [if_neg (by omega), if_neg (by omega), if_pos k]) hl
  · have k : L.kind = 4 := by obtain ⟨s, v, m, p, e, _⟩ := hd; rw [e]; rfl
    exact plw4 L s1 s2 s3 s4 w h hw k (by unfold wrW; rw [if_neg (by omega), if_neg (by omega), if_neg (by omega), if_pos k]) hv hl
  · have k : L.kind = 5 := by obtain ⟨s, a, e, _⟩ := hd; rw [e]; rfl
    exact plw5 L s1 s2 s3 s4 w h hw k (by unfold wrW; rw [if_neg (by omega), if_neg (by omega), if_neg (by omega), if_neg (by omega), if_pos k]) ok.num.2.2.2.1 hl
  · have k : L.kind = 6 := by obtain ⟨s, v, a, e, _⟩ := hd; rw [e]; rfl
    exact plw6 L s1 s2 s3 s4 w h hw k (by unfold wrW; rw [if_neg (by omega), if_neg (by omega), if_neg (by omega), if_neg (by omega), if_neg (by omega), if_pos k]) hv hn hl
  · have k : L.kind = 7 := by obtain ⟨s, a, x, e, _⟩ := hd; rw [e]; rfl
    have bx : InU32 L.addrs := by obtain ⟨s, a, x, e, _, _, hx⟩ := hd; have e2 := congrArg LV.addrs e; dsimp only [LV.new] at e2; rw [e2]; exact InU32_of hx.1
    exact plw7 L s1 s2 s3 s4 w h hw k (by unfold wrW; rw [if_neg (by omega), if_neg (by omega), if_neg (by omega), if_neg (by omega), if_neg (by omega), if_neg (by omega), if_pos k]) hn bx (by have := h.2.2.2.len; have := ok.lst.2.2.2; omega) hl
  · have k : L.kind = 8 := by obtain ⟨s, n, x, y, e, _⟩ := hd; rw [e]; rfl
    have bx : In64 L.imports := by obtain ⟨s, n, x, y, e, _, _, hx, _⟩ := hd; have e2 := congrArg LV.imports e; dsimp only [LV.new] at e2; rw [e2]; exact In64_of hx (by decide)
    have b_y : In64 L.exports := by obtain ⟨s, n, x, y, e, _, _, _, hy⟩ := hd; have e2 := congrArg LV.exports e; dsimp only [LV.new] at e2; rw [e2]; exact In64_of hy (by decide)
    exact plw8 L s1 s2 s3 s4 w h hw k (by unfold wrW; rw [if_neg (by omega), if_neg (by omega), if_neg (by omega), if_neg (by omega), if_neg (by omega), if_neg (by omega), if_neg (by omega), if_pos k]) bx (by have := h.2.1.len; have := ok.lst.2.1; omega) b_y (by have := h.2.2.1.len; have := ok.lst.2.2.1; omega) hl
  · have k : L.kind = 9 := by obtain ⟨s, v, n, a, b, e, _⟩ := hd; rw [e]; rfl
    exact plw9 L s1 s2 s3 s4 w h hw k (by unfold wrW; rw [if_neg (by omega), if_neg (by omega), if_neg (by omega), if_neg (by omega), if_neg (by omega), if_neg (by omega), if_neg (by omega), if_neg (by omega), if_pos k]) hv ok.num.2.2.2.1 ok.num.2.2.2.2.1 hl
set_option maxRecDepth 100000 in
set_option maxHeartbeats 4000000 in
theorem xplwords_no (L : LV) (s1 s2 s3 s4 : SlV) (w : World) (h : LRead w L s1 s2 s3 s4) (hk : LvOk L) (hr : rgB L = false) : Calls Tryz.prog 14 #[lineV L s1 s2 s3 s4] w fun e w' => e = .returned (.slice none 0 0) ∧ Below w.heap.size w w' := by
  have P0 := Lib.hid (fun T => line_boxed w L s1 s2 s3 s4 T)
  have RT := Lib.hid (fun w' h => cright_any L s1 s2 s3 s4 w' h hk)
  rw [hr] at RT
  have H := Lib.hid h
  clear h hk hr
  rw [show lineV L s1 s2 s3 s4 = .agg #[.int .i64 L.row, .int .i64 L.kind, .string (str L.dev), .string (str L.port), .string (str L.peer), .string (str L.far), .string (str L.name), .int .u64 L.mac, .int .u32 L.addr, .int .i64 L.bits, .int .i64 L.vlan, .int .i64 L.num, .int .i64 L.cost, .slice s1.A s1.n s1.c, .slice s2.A s2.n s2.c, .slice s3.A s3.n s3.c, .slice s4.A s4.n s4.c] from rfl]
  go_enter Tryz.func14, Tryz.ntmps14
  go_wp2_with (first
    | ((with_reducible refine wpList_lineOf ?hg (.tmp 1) ?ho w.heap.size ?hx L s1 s2 s3 s4 (P0.out _) ?_); (case hg => rfl); (case ho => rfl); (case hx => rfl))
    | (go_at_call 19; (with_reducible refine (RT.out _ (H.out.below ((Below.refl _ _).alloc (Nat.le_refl _) _))).mono ?_); rintro e w1 ⟨rfl, b1⟩; have B1 := Lib.hid (((Below.refl _ _).alloc (Nat.le_refl _) _).trans (b1.mono (by simp))); clear b1))
  go_ret
  exact ⟨rfl, B1.out⟩

/-! Line. -/
theorem joinF_short (M : Nat) : ∀ ps : List (List UInt8), (∀ p ∈ ps, p.length ≤ M) → (joinF ps).length ≤ ps.length * (M + 1)
  | [], _ => by simp [joinF]
  | [p], h => by have := h p (by simp); simp [joinF]; omega
  | p :: q :: r, h => by
    have h1 := h p (by simp)
    have h2 := joinF_short M (q :: r) (fun x hx => h x (by simp only [List.mem_cons] at hx ⊢; exact .inr hx))
    rw [joinF, List.length_append, List.length_append, List.length_cons (a := p), Nat.add_mul]
    simp only [List.length_cons, List.length_nil] at h2 ⊢
    omega
theorem Wrd.short {L : LV} (h : Wrd L) : Short 1000000 (wrW L) := fun k => by
  obtain ⟨_, h2, h3⟩ := h.words
  have h4 := joinF_short 40 ((wrW L).take k) (fun p hp => h3 p (List.mem_of_mem_take hp))
  have h5 : ((wrW L).take k).length ≤ 7 := by rw [List.length_take]; omega
  omega
theorem Wrd.rowLen {L : LV} (h : Wrd L) : (plR L).length ≤ 1000 := by
  obtain ⟨_, h2, h3⟩ := h.words
  have h4 := joinF_short 40 (wrW L) h3
  unfold plR
  omega
set_option maxRecDepth 20000 in
set_option maxHeartbeats 4000000 in
theorem xplline_any (L : LV) (s1 s2 s3 s4 : SlV) (w : World) (h : LRead w L s1 s2 s3 s4) (hw : Wrd L) (hl : LdT w) : Calls Tryz.prog 8 #[lineV L s1 s2 s3 s4] w fun e w' => e = .returned (.tuple #[.string (str (plR L)), .int .i64 0]) ∧ Below w.heap.size w w' := by
  have P0 := Lib.hid (fun T => line_boxed w L s1 s2 s3 s4 T)
  have WD := Lib.hid (fun w' h hl => xplwords_any L s1 s2 s3 s4 w' h hw hl)
  have H := Lib.hid h
  have HL := Lib.hid hl
  have NE := Lib.hid hw.words
  have SH := Lib.hid hw.short
  rw [show plR L = joinF (wrW L) from rfl]
  generalize wrW L = ws at *
  clear h hl hw
  rw [show lineV L s1 s2 s3 s4 = .agg #[.int .i64 L.row, .int .i64 L.kind, .string (str L.dev), .string (str L.port), .string (str L.peer), .string (str L.far), .string (str L.name), .int .u64 L.mac, .int .u32 L.addr, .int .i64 L.bits, .int .i64 L.vlan, .int .i64 L.num, .int .i64 L.cost, .slice s1.A s1.n s1.c, .slice s2.A s2.n s2.c, .slice s3.A s3.n s3.c, .slice s4.A s4.n s4.c] from rfl]
  go_enter Tryz.func8, Tryz.ntmps8
  go_wp2_with (first
    | ((with_reducible refine wpList_lineOf ?hg (.tmp 1) ?ho w.heap.size ?hx L s1 s2 s3 s4 (P0.out _) ?_); (case hg => rfl); (case ho => rfl); (case hx => rfl))
    | (go_at_call 14; (with_reducible refine (WD.out _ (H.out.below ((Below.refl _ _).alloc (Nat.le_refl _) _)) (HL.out.below ((Below.refl _ _).alloc (Nat.le_refl _) _))).mono ?_); rintro e w1 ⟨A1, n1, c1, rfl, g1, b1⟩; have B1 := Lib.hid (((Below.refl _ _).alloc (Nat.le_refl _) _).trans (b1.mono (by simp))); have S1 := Lib.hid g1; have z1 : ((n1 : Int) == 0) = false := (by { have h5 := g1.len; have h6 := NE.out.1; have h7 : ws.length ≠ 0 := fun e => h6 (List.eq_nil_of_length_eq_zero e); simp; omega }); have l1 : n1 ≤ 1000 := (by { have h5 := g1.len; have h6 := NE.out.2.1; omega }); clear b1 g1)
    | (go_at_call 15; (with_reducible refine (xjoin_any A1 n1 c1 ws _ S1.out SH.out l1).mono ?_); rintro e w2 ⟨rfl, b2⟩; have B2 := Lib.hid (trans_below B1.out b2); clear b2))
  exact bodyPost_ret (v := .tuple #[.string (str (joinF ws)), .int .i64 0]) (by simp [results, Tryz.results8, go_sem]) rfl ⟨rfl, B2.out⟩
set_option maxRecDepth 20000 in
set_option maxHeartbeats 4000000 in
theorem xplline_no (L : LV) (s1 s2 s3 s4 : SlV) (w : World) (h : LRead w L s1 s2 s3 s4) (hk : LvOk L) (hr : rgB L = false) : Calls Tryz.prog 8 #[lineV L s1 s2 s3 s4] w fun e w' => e = .returned (.tuple #[.string (str []), .int .i64 2]) ∧ Below w.heap.size w w' := by
  have P0 := Lib.hid (fun T => line_boxed w L s1 s2 s3 s4 T)
  have WD := Lib.hid (fun w' h => xplwords_no L s1 s2 s3 s4 w' h hk hr)
  have H := Lib.hid h
  clear h hk hr
  rw [show lineV L s1 s2 s3 s4 = .agg #[.int .i64 L.row, .int .i64 L.kind, .string (str L.dev), .string (str L.port), .string (str L.peer), .string (str L.far), .string (str L.name), .int .u64 L.mac, .int .u32 L.addr, .int .i64 L.bits, .int .i64 L.vlan, .int .i64 L.num, .int .i64 L.cost, .slice s1.A s1.n s1.c, .slice s2.A s2.n s2.c, .slice s3.A s3.n s3.c, .slice s4.A s4.n s4.c] from rfl]
  go_enter Tryz.func8, Tryz.ntmps8
  go_wp2_with (first
    | ((with_reducible refine wpList_lineOf ?hg (.tmp 1) ?ho w.heap.size ?hx L s1 s2 s3 s4 (P0.out _) ?_); (case hg => rfl); (case ho => rfl); (case hx => rfl))
    | (go_at_call 14; (with_reducible refine (WD.out _ (H.out.below ((Below.refl _ _).alloc (Nat.le_refl _) _))).mono ?_); rintro e w1 ⟨rfl, b1⟩; have B1 := Lib.hid (((Below.refl _ _).alloc (Nat.le_refl _) _).trans (b1.mono (by simp))); clear b1))
  exact bodyPost_ret (v := .tuple #[.string (str []), .int .i64 2]) (by simp [results, Tryz.results8, go_sem, str]) rfl ⟨rfl, B1.out⟩

/-! Text. -/
/-- bytes and an error, as plain.Text hands them back -/
def GotPl (w : World) (l : List UInt8) (E : Int) (e : Ending) (w' : World) : Prop := ∃ A n c, e = .returned (.tuple #[.slice A n c, .int .i64 E]) ∧ BSl w' A n c l ∧ Below w.heap.size w w'
theorem bsl_ten (w : World) (fr : Nat × Nat) : BSl (w.alloc (.cells #[.int .u8 10] 5 fr)) (some ⟨w.heap.size, 0, none⟩) 1 1 [10] := by
  have h := bsl_one w 10 fr (by decide)
  rwa [show u8 10 = 10 by decide] at h
theorem endF_app : ∀ a b : List (List UInt8), endF (a ++ b) = endF a ++ endF b
  | [], b => rfl
  | r :: s, b => by rw [List.cons_append, endF, endF, endF_app s b]; simp
theorem plT_take (xs : List LV) (k : Nat) (h : k < xs.length) : plT (xs.take (k + 1)) = plT (xs.take k) ++ plR (xs.getD k LV.zero) ++ [10] := by
  unfold plT
  rw [List.take_succ_eq_append_getElem h, List.map_append, List.map_cons, List.map_nil, endF_snoc]
  simp [List.getD, h]
theorem plT_le (xs : List LV) (k : Nat) : (plT (xs.take k)).length ≤ (plT xs).length := by
  have e : plT xs = plT (xs.take k) ++ plT (xs.drop k) := by
    unfold plT
    rw [← endF_app, ← List.map_append, List.take_append_drop]
  rw [e, List.length_append]
  omega
set_option maxRecDepth 20000 in
set_option maxHeartbeats 4000000 in
theorem xpltext_any (A : Option Addr) (n c : Nat) (xs : List LV) (w : World) (h : RSl lineR w (allB w) A n c xs) (hx : ∀ L ∈ xs, Wrd L) (hn : xs.length ≤ 400) (hl : (plT xs).length ≤ 20000) (hL : LdT w) :
    Calls Tryz.prog 6 #[.slice A n c] w (GotPl w (plT xs) 0) := by
  obtain ⟨i0, hi, hz0, hz1, hz2⟩ := info_parts Tryz.info5
  have Hi := Lib.hid hi; have Hz0 := Lib.hid hz0; have Hz1 := Lib.hid hz1; have Hz2 := Lib.hid hz2
  clear hi hz0 hz1 hz2
  have hlen := h.len
  have hle := h.le
  have hcap := h.cap
  have hn4 : ¬ (400 : Int) < (n : Int) := by omega
  have H := Lib.hid h
  have HX := Lib.hid hx
  have HT := Lib.hid hl
  have HL := Lib.hid hL
  have HLEN := Lib.hid hlen
  clear h hx hl hL hlen hn
  go_enter Tryz.func6, Tryz.ntmps6
  go_wp2
  go_loopw [4, 11] (fun v i wr => ∃ k : Nat, i = .int .i64 k ∧ k ≤ n ∧ wr.ownsRow w.heap.size 5 1 v (plT (xs.take k)).length (byteCells (plT (xs.take k))) ∧ Below w.heap.size w wr) (fun _ i _ => match i with | .int _ x => (n - x).toNat | _ => 0)
  case atStart => exact ⟨0, rfl, by omega, World.ownsRow_nil _ _ _ _, Below.refl _ _⟩
  case round =>
    obtain ⟨k, rfl, hk, ho, hb⟩ := hrel
    have B := Lib.hid hb
    have hk20 : (plT (xs.take k)).length ≤ 20000 := Nat.le_trans (plT_le xs k) HT.out
    obtain ⟨m, hm⟩ : ∃ m, (plT (xs.take k)).length = m := ⟨_, rfl⟩
    rw [hm] at ho hk20
    obtain ⟨A3, c3, rfl⟩ := own_shape ho
    have O := Lib.hid ho
    clear ho hb
    by_cases hlt : k < n
    · obtain ⟨b0, o0, s1, s2, s3, s4, rfl, hb0, l0, r0⟩ := lines_at H.out k hlt
      have hk2 : k < xs.length := by rw [HLEN.out]; exact hlt
      have hW := HX.out (xs.getD k LV.zero) (by simp [List.getD, hk2])
      have hTk := plT_take xs k hk2
      generalize xs.getD k LV.zero = L at *
      have hR := hW.rowLen
      have LN := Lib.hid (fun w' h hl => xplline_any L s1 s2 s3 s4 w' h hW hl)
      generalize plR L = r at *
      have KP := Lib.hid (show ∀ w', Below w.heap.size w w' → w'.rangeAt b0 (o0 + k * 17) (lineC L s1 s2 s3 s4) ∧ LRead w' L s1 s2 s3 s4 ∧ LdT w' from fun w' hb => ⟨rangeAt_keep r0 (hb.block b0 hb0), l0.below hb, HL.out.below hb⟩)
      have TK := Lib.hid hTk
      generalize plT (xs.take k) = q at *
      have hsz := str_size r
      have HM := Lib.hid hm
      have lt2 : (k : Int) < (n : Int) := by omega
      have le2 : (m : Int) ≤ 20000 := by omega
      clear l0 r0 hW hTk hm hk2
      go_wp2_with (first
        | ((with_reducible refine wpList_lineAt ?hg (.tmp 13) ?ho b0 (o0 + k * 17) ?hx L s1 s2 s3 s4 (KP.out _ B.out).1 ?_); (case hg => rfl); (case ho => rfl); (case hx => rfl))
        | ((with_reducible refine wpList_newline (w := wr) rfl rfl rfl (.tmp 6) (.tmp 14) rfl ?hx L s1 s2 s3 s4 ?hy ?_); (case hx => rfl); (case hy => rfl); intro w3 x3 y3; have X3 := Lib.hid x3; have B3 := Lib.hid (trans_below B.out y3); have O3 := Lib.hid (own_below O.out y3); clear x3 y3)
        | ((with_reducible refine wpList_lineOf ?hg (.tmp 6) ?ho wr.heap.size ?hx L s1 s2 s3 s4 X3.out ?_); (case hg => rfl); (case ho => rfl); (case hx => rfl))
        | (go_at_call 8; (with_reducible refine (LN.out _ (KP.out _ B3.out).2.1 (KP.out _ B3.out).2.2).mono ?_); rintro e w4 ⟨rfl, b4⟩; have B4 := Lib.hid (trans_below B3.out b4); have O4 := Lib.hid (own_below O3.out b4); clear b4)
        | (at_builtin; (with_reducible refine Lib.wpList_append_own_string _ rfl (.tmp 26) (.tmp 27) 22 9 rfl w.heap.size 5 i0 Tryz.underlying22 Tryz.underlying9 Hi.out Hz0.out Hz1.out Hz2.out _ _ _ ?hs O4.out (str r) ?hx ?h1 ?h2 ?h3 ?_); (case hs => rfl); (case hx => rfl); (case h1 => (unfold maxLen; rw [hsz]; omega)); (case h2 => (rw [hsz]; omega)); (case h3 => exact B4.out.size); intro v5 w5 hown5 hgrow5 _; have B5 := Lib.hid (below_app B4.out O4.out hgrow5); rw [strCells_eq, ← byteCells_app, hsz] at hown5; have O5 := Lib.hid hown5; obtain ⟨A5, c5, rfl⟩ := own_shape hown5; clear hown5 hgrow5)
        | (at_builtin; refine wpList_bapp rfl (.tmp 28) (.tmp 29) 22 rfl w.heap.size 5 i0 (.int .u8 0) 1 Tryz.underlying22 Hi.out Hz0.out Hz1.out Hz2.out rfl _ _ _ (by rfl) (O5.out.alloc _) (some ⟨w5.heap.size, 0, none⟩) 1 1 [10] (by rfl) (bsl_ten w5 _) (by unfold maxLen; omega) (by omega) (Nat.le_trans B5.out.size (by simp)) ?_; intro v6 w6 hown6 hgrow6; have B6 := Lib.hid (below_app (B5.out.alloc B5.out.size _) (O5.out.alloc _) hgrow6); rw [← byteCells_app] at hown6; have O6 := Lib.hid hown6; clear hown6 hgrow6))
      go_roundw
      case rel =>
        refine ⟨k + 1, by simp, by omega, ?_, B6.out⟩
        have h6 := O6.out
        rw [TK.out, List.length_append, List.length_append, HM.out]
        exact h6
      case measure => simp only []; omega
    · obtain rfl : k = n := by omega
      have E := Lib.hid (show xs.take k = xs from List.take_of_length_le (by rw [HLEN.out]; omega))
      rw [E.out] at O
      have S := Lib.hid (BSl.of_own O.out)
      clear hm
      have le2 : ¬ (20000 : Int) < (m : Int) := by omega
      go_wp2
      go_ret2
      exact ⟨_, _, _, rfl, S.out, B.out⟩

/-! The chapter's example. -/
/-- the line of a vtep -/
def exP : LV := { LV.new 0 5 with dev := [97], addr := 167772161 }
theorem exP_wrd : Wrd exP := by
  obtain ⟨h1, h2⟩ := rd_row_any [[118, 116, 101, 112], [97], [49, 48, 46, 48, 46, 48, 46, 49]] 0 2
  refine ⟨[[118, 116, 101, 112], [97], [49, 48, 46, 48, 46, 48, 46, 49]], 0, ?_, by rw [h1]; exact tx_row.1, by decide, by decide, by decide⟩
  rw [h2 tx_row.1, tx_row.2]
  rfl
theorem rgB_zero : rgB LV.zero = false := by
  rw [rgB_some (L := LV.zero) (M := LV.zero) rfl]
  rfl
theorem exP_row : plR exP = [118, 116, 101, 112, 32, 97, 32, 49, 48, 46, 48, 46, 48, 46, 49] := by decide +kernel
theorem xplline_ex (w : World) (hL : LdT w) : Calls Tryz.prog 8 #[lineV exP SlV.nil SlV.nil SlV.nil SlV.nil] w fun e w' => e = .returned (.tuple #[.string (str [118, 116, 101, 112, 32, 97, 32, 49, 48, 46, 48, 46, 48, 46, 49]), .int .i64 0]) ∧ Below w.heap.size w w' := by
  have h := xplline_any exP SlV.nil SlV.nil SlV.nil SlV.nil w ⟨ISl.nil, ISl.nil, ISl.nil, ISl.nil⟩ exP_wrd hL
  rw [exP_row] at h
  exact h
theorem xplline_zero (w : World) (_hL : LdT w) : Calls Tryz.prog 8 #[lineV LV.zero SlV.nil SlV.nil SlV.nil SlV.nil] w fun e w' => e = .returned (.tuple #[.string (str []), .int .i64 2]) ∧ Below w.heap.size w w' :=
  xplline_no LV.zero SlV.nil SlV.nil SlV.nil SlV.nil w LRead.zero zero_ok rgB_zero
end Go.Proofs.YtagbfklcbekceaaGreatDoor

namespace Go.Proofs.YtagbfklcbekceaaGreatDoor
open Go.RowKit

set_option maxRecDepth 20000 in
set_option maxHeartbeats 2000000 in
theorem works13_any (w : World) (hl : LdT w) : Calls Tryz.prog 4 #[] w fun e w' => e = .returned (.bool true) ∧ Below w.heap.size w w' := by
  have HL := Lib.hid hl
  have E1 := Lib.hid (fun (w : World) (hl : LdT w) => show Calls Tryz.prog 8 #[.agg #[.int .i64 0, .int .i64 5, .string ⟨#[97]⟩, .string ⟨#[]⟩, .string ⟨#[]⟩, .string ⟨#[]⟩, .string ⟨#[]⟩, .int .u64 0, .int .u32 167772161, .int .i64 0, .int .i64 0, .int .i64 0, .int .i64 0, .slice none 0 0, .slice none 0 0, .slice none 0 0, .slice none 0 0]] w fun e w' => e = .returned (.tuple #[.string ⟨#[118, 116, 101, 112, 32, 97, 32, 49, 48, 46, 48, 46, 48, 46, 49]⟩, .int .i64 0]) ∧ Below w.heap.size w w' from xplline_ex w hl)
  have E2 := Lib.hid (fun (w : World) (hl : LdT w) => show Calls Tryz.prog 8 #[.agg #[.int .i64 0, .int .i64 0, .string ⟨#[]⟩, .string ⟨#[]⟩, .string ⟨#[]⟩, .string ⟨#[]⟩, .string ⟨#[]⟩, .int .u64 0, .int .u32 0, .int .i64 0, .int .i64 0, .int .i64 0, .int .i64 0, .slice none 0 0, .slice none 0 0, .slice none 0 0, .slice none 0 0]] w fun e w' => e = .returned (.tuple #[.string ⟨#[]⟩, .int .i64 2]) ∧ Below w.heap.size w w' from xplline_zero w hl)
  clear hl
  go_enter Tryz.func4, Tryz.ntmps4
  go_wp2_with (first
    | (go_at_call 8; (with_reducible refine (E1.out _ HL.out).mono ?_); rintro e w1 ⟨rfl, b1⟩; have B1 := Lib.hid b1; clear b1)
    | (go_at_call 8; (with_reducible refine (E2.out _ (HL.out.below B1.out)).mono ?_); rintro e w2 ⟨rfl, b2⟩; have B2 := Lib.hid (trans_below B1.out b2); clear b2))
  go_ret
  exact ⟨rfl, B2.out⟩
set_option maxRecDepth 20000 in
set_option maxHeartbeats 2000000 in
theorem once_walk (A : Option Addr) (n c : Nat) (l : List UInt8) (w : World) (h : BSl w A n c l) (hl : LdT w) : Calls Tryz.prog 3 #[.slice A n c] w fun e w' => e = .returned (.bool true) ∧ Below w.heap.size w w' := by
  have HL := Lib.hid hl
  have W0 := Lib.hid (works13_any w hl)
  by_cases h3 : 3000 < n
  · have i0 : (3000 : Int) < (n : Int) := by omega
    clear h hl
    go_enter Tryz.func3, Tryz.ntmps3
    go_wp2_with (go_at_call 4; (with_reducible refine W0.out.mono ?_); rintro e w1 ⟨rfl, b1⟩)
    go_ret
    exact ⟨rfl, b1⟩
  have i0 : ¬ (3000 : Int) < (n : Int) := by omega
  have H := Lib.hid h
  obtain ⟨⟨row, E, xs⟩, hT⟩ : ∃ T, txV l = T := ⟨_, rfl⟩
  have R1 := fun w h hl => xtext_any A n c l w h hl
  rw [hT] at R1
  have R1 := Lib.hid R1
  have hlen : l.length ≤ 3000 := by have := h.len; omega
  by_cases hE : E = 0
  rotate_left
  · have ne : (E != 0) = true := by simpa using hE
    clear h hl hT hE
    go_enter Tryz.func3, Tryz.ntmps3
    go_wp2_with (first
      | (go_at_call 4; (with_reducible refine W0.out.mono ?_); rintro e w1 ⟨rfl, b1⟩; have B1 := Lib.hid b1; clear b1)
      | (go_at_call 5; (with_reducible refine (R1.out _ (H.out.below B1.out) (HL.out.below B1.out)).mono ?_); rintro e w2 ⟨A2, n2, c2, rfl, _, b2⟩; have B2 := Lib.hid (trans_below B1.out b2); clear b2))
    go_ret
    exact ⟨rfl, B2.out⟩
  subst hE
  obtain ⟨k1, k2, k3, ys, k4, k5, k6, k7, k8⟩ := pl_once hlen hT
  have R2 := fun A n c w h hl => xtext_any A n c (plT xs) w h hl
  rw [k4] at R2
  have R2 := Lib.hid R2
  have T1 := Lib.hid (fun A n c w h hL => xpltext_any A n c xs w h k3 k1 k2 hL)
  have T2 := fun A n c w h hL => xpltext_any A n c ys w h k8 k7 (by rw [k6]; exact k2) hL
  rw [k6] at T2
  have T2 := Lib.hid T2
  have AL := Lib.hid (alikeB_yes k5)
  have YL := Lib.hid k7
  have XL := Lib.hid k1
  have bs : (plT xs == plT xs) = true := by simp
  generalize plT xs = t at *
  clear h hl hT hlen k1 k2 k3 k4 k5 k6 k7 k8
  go_enter Tryz.func3, Tryz.ntmps3
  go_wp2_with (first
    | (go_at_call 4; (with_reducible refine W0.out.mono ?_); rintro e w1 ⟨rfl, b1⟩; have B1 := Lib.hid b1; clear b1)
    | (go_at_call 5; (with_reducible refine (R1.out _ (H.out.below B1.out) (HL.out.below B1.out)).mono ?_); rintro e w2 ⟨A2, n2, c2, rfl, s2, b2⟩; have B2 := Lib.hid (trans_below B1.out b2); have S2 := Lib.hid s2; clear b2 s2)
    | (go_at_call 6; (with_reducible refine (T1.out A2 n2 c2 _ S2.out (HL.out.below B2.out)).mono ?_); rintro e w3 ⟨A3, n3, c3, rfl, s3, b3⟩; have B3 := Lib.hid (trans_below B2.out b3); have S3 := Lib.hid s3; have L3 := Lib.hid (S2.out.keep (fun b hb => b3.block b hb) (fun b hb => Nat.lt_of_lt_of_le hb b3.size)); clear b3 s3)
    | (go_at_call 5; (with_reducible refine (R2.out A3 n3 c3 _ S3.out (HL.out.below B3.out)).mono ?_); rintro e w4 ⟨A4, n4, c4, rfl, s4, b4⟩; have B4 := Lib.hid (trans_below B3.out b4); have S4 := Lib.hid s4; have L4 := Lib.hid (L3.out.keep (fun b hb => b4.block b hb) (fun b hb => Nat.lt_of_lt_of_le hb b4.size)); have C4 := Lib.hid (S3.out.below b4); clear b4 s4)
    | (go_at_call 6; (with_reducible refine (T2.out A4 n4 c4 _ S4.out (HL.out.below B4.out)).mono ?_); rintro e w5 ⟨A5, n5, c5, rfl, s5, b5⟩; have B5 := Lib.hid (trans_below B4.out b5); have S5 := Lib.hid s5; have L5 := Lib.hid (L4.out.keep (fun b hb => b5.block b hb) (fun b hb => Nat.lt_of_lt_of_le hb b5.size)); have M5 := Lib.hid (S4.out.keep (fun b hb => b5.block b hb) (fun b hb => Nat.lt_of_lt_of_le hb b5.size)); have C5 := Lib.hid (C4.out.below b5); have hn2 : n2 ≤ 1000 := by { have := S2.out.len; have := XL.out; omega }; have hn4 : n4 ≤ 1000 := by { have := S4.out.len; have := YL.out; omega }; clear b5 s5)
    | (go_at_call 7; (with_reducible refine (xtsame_any A2 n2 c2 xs A4 n4 c4 ys _ L5.out M5.out hn2 hn4).mono ?_); rintro e w6 ⟨rfl, b6⟩; rw [AL.out]; have B6 := Lib.hid (trans_below B5.out b6); have cv1 := run_string_bsl w6 A3 n3 c3 t (C5.out.below b6); have cv2 := run_string_bsl w6 A5 n5 c5 t (S5.out.below b6); clear b6))
  go_ret
  exact ⟨rfl, B6.out⟩
end Go.Proofs.YtagbfklcbekceaaGreatDoor
