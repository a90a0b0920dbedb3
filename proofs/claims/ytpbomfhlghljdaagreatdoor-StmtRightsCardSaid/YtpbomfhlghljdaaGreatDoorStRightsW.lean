/- The walk of StmtRights. -/
import Derived.Test.YtpbomfhlghljdaaGreatDoorStWorks
import Derived.Test.YtpbomfhlghljdaaGreatDoorStOk
namespace Go.Proofs.YtpbomfhlghljdaaGreatDoor
open Go.RowKit

theorem LRead.to {w : World} {L M : LV} {s1 s2 s3 s4 : SlV} (h : LRead w L s1 s2 s3 s4) (e : L.tagged = M.tagged ∧ L.imports = M.imports ∧ L.exports = M.exports ∧ L.addrs = M.addrs) : LRead w M s1 s2 s3 s4 := by
  unfold LRead at h ⊢
  rw [← e.1, ← e.2.1, ← e.2.2.1, ← e.2.2.2]
  exact h
theorem LvOk.row {L : LV} (h : LvOk L) (x : Int) (x0 : -9223372036854775808 ≤ x) (x1 : x ≤ 9223372036854775807) : LvOk { L with row := x } := ⟨h.txt, h.lst, ⟨⟨x0, x1⟩, h.num.2⟩⟩
theorem LvOk.to_kind {L : LV} (h : LvOk L) (x : Int) (x0 : 0 ≤ x) (x1 : x ≤ 18) : LvOk { L with kind := x } := ⟨h.txt, h.lst, ⟨h.num.1, ⟨x0, x1⟩, h.num.2.2⟩⟩
theorem LvOk.to_vlan {L : LV} (h : LvOk L) : LvOk { L with vlan := 4095 } := ⟨h.txt, h.lst, ⟨h.num.1, h.num.2.1, h.num.2.2.1, h.num.2.2.2.1, h.num.2.2.2.2.1, (show (0 : Int) ≤ 4095 ∧ (4095 : Int) ≤ 4095 by decide), h.num.2.2.2.2.2.2⟩⟩
theorem LvOk.to_num {L : LV} (h : LvOk L) : LvOk { L with num := 16777216 } := ⟨h.txt, h.lst, ⟨h.num.1, h.num.2.1, h.num.2.2.1, h.num.2.2.2.1, h.num.2.2.2.2.1, h.num.2.2.2.2.2.1, (show (0 : Int) ≤ 16777216 ∧ (16777216 : Int) ≤ 16777216 by decide), h.num.2.2.2.2.2.2.2⟩⟩
set_option maxRecDepth 20000 in
set_option maxHeartbeats 2000000 in
/-- of words that are too many, or too long, or no line -/
theorem rights_no (A : Option Addr) (n c : Nat) (ws : List (List UInt8)) (row other : Int) (w : World) (h : SSl w A n c ws) (hl : LdS w) (hx : greatB ws = true ∨ (greatB ws = false ∧ ¬ rdE ws row = 0)) :
    Calls Tryz.prog 4 #[.slice A n c, .int .i64 row, .int .i64 other] w fun e w' => e = .returned (.bool true) ∧ Below w.heap.size w w' := by
  have G := fun w h => great_any A n c ws w h
  have H := Lib.hid h
  have HL := Lib.hid hl
  rcases hx with hg | ⟨hg, he⟩
  · rw [hg] at G
    have G := Lib.hid G
    clear h hl hg
    go_enter Tryz.func4, Tryz.ntmps4
    go_wp2_with (first
      | (go_at_call 6; (with_reducible refine (works11_any _ HL.out).mono ?_); rintro e w1 ⟨rfl, b1⟩; have B1 := Lib.hid b1; clear b1)
      | (go_at_call 5; (with_reducible refine (G.out _ (H.out.below B1.out)).mono ?_); rintro e w2 ⟨rfl, b2⟩; have B2 := Lib.hid (trans_below B1.out b2); clear b2))
    go_ret
    exact ⟨rfl, B2.out⟩
  · rw [hg] at G
    have G := Lib.hid G
    have hs := (great_no hg).2
    have R1 := fun w h hl => xread_any A n c ws row w h hs hl
    rw [show rdL ws row = LV.zero by unfold rdL; rw [if_neg he]] at R1
    generalize rdE ws row = E at R1 he
    have R1 := Lib.hid R1
    have SM := Lib.hid (fun s1 s2 s3 s4 (w : World) (h : LRead w LV.zero s1 s2 s3 s4) => show Calls Tryz.prog 10 #[lineV LV.zero s1 s2 s3 s4, .agg #[.int .i64 0, .int .i64 0, .string ⟨#[]⟩, .string ⟨#[]⟩, .string ⟨#[]⟩, .string ⟨#[]⟩, .string ⟨#[]⟩, .int .u64 0, .int .u32 0, .int .i64 0, .int .i64 0, .int .i64 0, .int .i64 0, .slice none 0 0, .slice none 0 0, .slice none 0 0, .slice none 0 0]] w fun e w' => e = .returned (.bool true) ∧ Below w.heap.size w w' from by
      have := xsame_any LV.zero LV.zero s1 s2 s3 s4 SlV.nil SlV.nil SlV.nil SlV.nil w h LRead.zero zero_ok zero_ok
      rw [sameB_self] at this
      exact this)
    have ne : (E != 0) = true := by simpa using he
    clear h hl hg hs he
    go_enter Tryz.func4, Tryz.ntmps4
    go_wp2_with (first
      | (go_at_call 6; (with_reducible refine (works11_any _ HL.out).mono ?_); rintro e w0 ⟨rfl, b0⟩; have B0 := Lib.hid b0; clear b0)
      | (go_at_call 5; (with_reducible refine (G.out _ (H.out.below B0.out)).mono ?_); rintro e w1 ⟨rfl, b1⟩; have B1 := Lib.hid (trans_below B0.out b1); clear b1)
      | (go_at_call 7; (with_reducible refine (R1.out _ (H.out.below B1.out) (HL.out.below B1.out)).mono ?_); rintro e w2 ⟨s1, s2, s3, s4, rfl, r2, _, b2⟩; have B2 := Lib.hid (trans_below B1.out b2); have L2 := Lib.hid r2; clear r2 b2)
      | ((with_reducible refine wpList_newline (w := w2) rfl rfl rfl (.tmp 7) (.tmp 21) rfl ?hx LV.zero s1 s2 s3 s4 ?hy ?_); (case hx => rfl); (case hy => rfl); intro w3 x3 y3; have X3 := Lib.hid x3; have B3 := Lib.hid (trans_below B2.out y3); have L3 := Lib.hid (L2.out.below y3); clear x3 y3)
      | ((with_reducible refine wpList_lineOf ?hw (.tmp 7) rfl w2.heap.size ?hx LV.zero s1 s2 s3 s4 X3.out ?_); (case hw => rfl); (case hx => rfl))
      | (go_at_call 10; (with_reducible refine (SM.out s1 s2 s3 s4 _ L3.out).mono ?_); rintro e w4 ⟨rfl, b4⟩; have B4 := Lib.hid (trans_below B3.out b4); clear b4))
    go_ret
    exact ⟨rfl, B4.out⟩
/-- a line in a box, its lists elsewhere -/
structure LB (w : World) (q : Nat) (L : LV) (s1 s2 s3 s4 : SlV) : Prop where
  box : BoxF w q 17 (lc L s1 s2 s3 s4)
  read : LRead w L s1 s2 s3 s4
theorem LB.below {w w' : World} {q : Nat} {L : LV} {s1 s2 s3 s4 : SlV} (h : LB w q L s1 s2 s3 s4) (b : Below w.heap.size w w') : LB w' q L s1 s2 s3 s4 := ⟨h.box.below (by omega) b, h.read.below b⟩
set_option maxRecDepth 20000 in
set_option maxHeartbeats 8000000 in
theorem rights_yes (A : Option Addr) (n c : Nat) (ws : List (List UInt8)) (row other : Int) (w : World) (h : SSl w A n c ws) (hl : LdS w) (hg : greatB ws = false) (he : rdE ws row = 0) (r0 : -9223372036854775808 ≤ row) (r1 : row ≤ 9223372036854775807) (o0 : -9223372036854775808 ≤ other) (o1 : other ≤ 9223372036854775807) :
    Calls Tryz.prog 4 #[.slice A n c, .int .i64 row, .int .i64 other] w fun e w' => e = .returned (.bool true) ∧ Below w.heap.size w w' := by
  have G := fun w h => great_any A n c ws w h
  have H := Lib.hid h
  have HL := Lib.hid hl
  rw [hg] at G
  have G := Lib.hid G
  have hs := (great_no hg).2
  have hk := rd_cases ws row he
  have R1 := fun w h hl => xread_any A n c ws row w h hs hl
  rw [he] at R1
  generalize rdL ws row = L at R1 hk
  have R1 := Lib.hid R1
  obtain ⟨hrow, k1, k9⟩ := rd_row hk
  have ok := rd_ok hk r0 r1
  have wk : IntKind.i64.wrap (L.kind + 9) = L.kind + 9 := by rw [IntKind.wrap_i64]; omega
  obtain ⟨M1, hM1⟩ : ∃ M, M = { L with row := other } := ⟨_, rfl⟩
  obtain ⟨M2, hM2⟩ : ∃ M, M = { L with vlan := 4095 } := ⟨_, rfl⟩
  obtain ⟨M3, hM3⟩ : ∃ M, M = { L with num := 16777216 } := ⟨_, rfl⟩
  obtain ⟨M4, hM4⟩ : ∃ M, M = { L with kind := L.kind + 9 } := ⟨_, rfl⟩
  have CP := Lib.hid (fun s1 s2 s3 s4 w h => xcopy_any L s1 s2 s3 s4 w h ok)
  have RT0 := fun s1 s2 s3 s4 w h hl => xright_any L s1 s2 s3 s4 w h ok hl
  rw [rgB_read row L hk] at RT0
  have RT1 := fun s1 s2 s3 s4 w h hl => xright_any M1 s1 s2 s3 s4 w h (by rw [hM1]; exact ok.row other o0 o1) hl
  rw [show rgB M1 = true by rw [hM1, rgB_row, rgB_read row L hk]] at RT1
  have RT2 := fun s1 s2 s3 s4 w h hl => xright_any M2 s1 s2 s3 s4 w h (by rw [hM2]; exact ok.to_vlan) hl
  rw [show rgB M2 = false by rw [hM2, rgB_vlan]] at RT2
  have RT3 := fun s1 s2 s3 s4 w h hl => xright_any M3 s1 s2 s3 s4 w h (by rw [hM3]; exact ok.to_num) hl
  rw [show rgB M3 = false by rw [hM3, rgB_num]] at RT3
  have RT4 := fun s1 s2 s3 s4 w h hl => xright_any M4 s1 s2 s3 s4 w h (by rw [hM4]; exact ok.to_kind _ (by omega) (by omega)) hl
  rw [show rgB M4 = false by rw [hM4]; exact rgB_kind L _ (by omega)] at RT4
  have SM := fun s1 s2 s3 s4 t1 t2 t3 t4 w h g => xsame_any L M1 s1 s2 s3 s4 t1 t2 t3 t4 w h g ok (by rw [hM1]; exact ok.row other o0 o1)
  rw [show sameB L M1 = decide (row = other) by rw [hM1, sameB_row, hrow]] at SM
  have RT0 := Lib.hid RT0
  have RT1 := Lib.hid RT1
  have RT2 := Lib.hid RT2
  have RT3 := Lib.hid RT3
  have RT4 := Lib.hid RT4
  have HM1 := Lib.hid hM1
  have HM2 := Lib.hid hM2
  have HM3 := Lib.hid hM3
  have HM4 := Lib.hid hM4
  have HR := Lib.hid hrow
  obtain ⟨v, hv⟩ : ∃ v, decide (row = other) = v := ⟨_, rfl⟩
  have v2 : (row == other) = v := by rw [← hv]; by_cases e : row = other <;> simp [e]
  rw [hv] at SM
  have SM := Lib.hid SM
  clear h hl hg hs hk ok hM1 hM2 hM3 hM4 k1 k9 he hrow hv r0 r1 o0 o1
  go_enter Tryz.func4, Tryz.ntmps4
  go_wp2_with (first
    | (go_at_call 6; (with_reducible refine (works11_any _ HL.out).mono ?_); rintro e w0 ⟨rfl, b0⟩; have B0 := Lib.hid b0; clear b0)
    | (go_at_call 5; (with_reducible refine (G.out _ (H.out.below B0.out)).mono ?_); rintro e w1 ⟨rfl, b1⟩; have B1 := Lib.hid (trans_below B0.out b1); clear b1)
    | (go_at_call 7; (with_reducible refine (R1.out _ (H.out.below B1.out) (HL.out.below B1.out)).mono ?_); rintro e w2 ⟨s1, s2, s3, s4, rfl, r2, _, b2⟩; have B2 := Lib.hid (trans_below B1.out b2); have L2 := Lib.hid r2; clear r2 b2)
    | ((with_reducible refine wpList_newline (w := w2) rfl rfl rfl (.tmp 7) (.tmp 21) rfl ?hx L s1 s2 s3 s4 ?hy ?_); (case hx => rfl); (case hy => rfl); intro w3 x3 y3; have P0 := Lib.hid (show LB w3 w2.heap.size L s1 s2 s3 s4 from ⟨x3, L2.out.below y3⟩); have BB := Lib.hid (trans_below B2.out y3); clear x3 y3)
    | ((with_reducible refine wpList_lineOf ?hw (.tmp 7) rfl w2.heap.size ?hx L s1 s2 s3 s4 P0.out.box ?_); (case hw => rfl); (case hx => rfl))
    | (go_at_call 11; (with_reducible refine (CP.out s1 s2 s3 s4 w3 P0.out.read).mono ?_); rintro e a0 ⟨t1, t2, t3, t4, rfl, r2, b2⟩; have Q1 := Lib.hid r2; have BB := Lib.hid (trans_below BB.out b2); have P0 := Lib.hid (P0.out.below b2); clear r2 b2)
    | ((with_reducible refine wpList_newline (w := a0) rfl rfl rfl (.tmp 9) (.tmp 29) rfl ?hx L t1 t2 t3 t4 ?hy ?_); (case hx => rfl); (case hy => rfl); intro b0 x3 y3; have g0 : b0.cell? ⟨a0.heap.size, 0, none⟩ = some (.int .i64 L.row) := x3.cell 0 (by omega); have g1 : b0.frozen? ⟨a0.heap.size, 0, none⟩ = false := x3.2 0; obtain ⟨c0, e6⟩ : ∃ w6, b0.setCell ⟨a0.heap.size, 0, none⟩ (.int .i64 other) = w6 := ⟨_, rfl⟩; have y6 : Below a0.heap.size a0 c0 := by { rw [← e6]; exact y3.setCell (Nat.le_refl _) _ }; have P1 := Lib.hid (show LB c0 a0.heap.size M1 t1 t2 t3 t4 from ⟨by { rw [← e6, HM1.out]; exact BoxF.to_row x3 _ }, (Q1.out.below y6).to (by { rw [HM1.out]; exact ⟨rfl, rfl, rfl, rfl⟩ })⟩); have P0 := Lib.hid (P0.out.below y6); have BB := Lib.hid (trans_below BB.out y6); clear x3 y3 y6)
    | (go_at_call 11; (with_reducible refine (CP.out s1 s2 s3 s4 c0 P0.out.read).mono ?_); rintro e a1 ⟨u1, u2, u3, u4, rfl, r2, b2⟩; have Q2 := Lib.hid r2; have BB := Lib.hid (trans_below BB.out b2); have P0 := Lib.hid (P0.out.below b2); have P1 := Lib.hid (P1.out.below b2); clear r2 b2)
    | ((with_reducible refine wpList_newline (w := a1) rfl rfl rfl (.tmp 10) (.tmp 33) rfl ?hx L u1 u2 u3 u4 ?hy ?_); (case hx => rfl); (case hy => rfl); intro b1 x3 y3; have g0 : b1.cell? ⟨a1.heap.size, 10, none⟩ = some (.int .i64 L.vlan) := x3.cell 10 (by omega); have g1 : b1.frozen? ⟨a1.heap.size, 10, none⟩ = false := x3.2 10; obtain ⟨c1, e6⟩ : ∃ w6, b1.setCell ⟨a1.heap.size, 10, none⟩ (.int .i64 4095) = w6 := ⟨_, rfl⟩; have y6 : Below a1.heap.size a1 c1 := by { rw [← e6]; exact y3.setCell (Nat.le_refl _) _ }; have P2 := Lib.hid (show LB c1 a1.heap.size M2 u1 u2 u3 u4 from ⟨by { rw [← e6, HM2.out]; exact BoxF.to_vlan x3 _ }, (Q2.out.below y6).to (by { rw [HM2.out]; exact ⟨rfl, rfl, rfl, rfl⟩ })⟩); have P0 := Lib.hid (P0.out.below y6); have P1 := Lib.hid (P1.out.below y6); have BB := Lib.hid (trans_below BB.out y6); clear x3 y3 y6)
    | (go_at_call 11; (with_reducible refine (CP.out s1 s2 s3 s4 c1 P0.out.read).mono ?_); rintro e a2 ⟨j1, j2, j3, j4, rfl, r2, b2⟩; have Q3 := Lib.hid r2; have BB := Lib.hid (trans_below BB.out b2); have P0 := Lib.hid (P0.out.below b2); have P1 := Lib.hid (P1.out.below b2); have P2 := Lib.hid (P2.out.below b2); clear r2 b2)
    | ((with_reducible refine wpList_newline (w := a2) rfl rfl rfl (.tmp 11) (.tmp 36) rfl ?hx L j1 j2 j3 j4 ?hy ?_); (case hx => rfl); (case hy => rfl); intro b2 x3 y3; have g0 : b2.cell? ⟨a2.heap.size, 11, none⟩ = some (.int .i64 L.num) := x3.cell 11 (by omega); have g1 : b2.frozen? ⟨a2.heap.size, 11, none⟩ = false := x3.2 11; obtain ⟨c2, e6⟩ : ∃ w6, b2.setCell ⟨a2.heap.size, 11, none⟩ (.int .i64 16777216) = w6 := ⟨_, rfl⟩; have y6 : Below a2.heap.size a2 c2 := by { rw [← e6]; exact y3.setCell (Nat.le_refl _) _ }; have P3 := Lib.hid (show LB c2 a2.heap.size M3 j1 j2 j3 j4 from ⟨by { rw [← e6, HM3.out]; exact BoxF.to_num x3 _ }, (Q3.out.below y6).to (by { rw [HM3.out]; exact ⟨rfl, rfl, rfl, rfl⟩ })⟩); have P0 := Lib.hid (P0.out.below y6); have P1 := Lib.hid (P1.out.below y6); have P2 := Lib.hid (P2.out.below y6); have BB := Lib.hid (trans_below BB.out y6); clear x3 y3 y6)
    | (go_at_call 11; (with_reducible refine (CP.out s1 s2 s3 s4 c2 P0.out.read).mono ?_); rintro e a3 ⟨z1, z2, z3, z4, rfl, r2, b2⟩; have Q4 := Lib.hid r2; have BB := Lib.hid (trans_below BB.out b2); have P0 := Lib.hid (P0.out.below b2); have P1 := Lib.hid (P1.out.below b2); have P2 := Lib.hid (P2.out.below b2); have P3 := Lib.hid (P3.out.below b2); clear r2 b2)
    | ((with_reducible refine wpList_newline (w := a3) rfl rfl rfl (.tmp 12) (.tmp 39) rfl ?hx L z1 z2 z3 z4 ?hy ?_); (case hx => rfl); (case hy => rfl); intro b3 x3 y3; have g0 : b3.cell? ⟨a3.heap.size, 1, none⟩ = some (.int .i64 L.kind) := x3.cell 1 (by omega); have g1 : b3.frozen? ⟨a3.heap.size, 1, none⟩ = false := x3.2 1; have k0 : b3.cell? ⟨w2.heap.size, 1, none⟩ = some (.int .i64 L.kind) := (P0.out.below y3).box.cell 1 (by omega); obtain ⟨c3, e6⟩ : ∃ w6, b3.setCell ⟨a3.heap.size, 1, none⟩ (.int .i64 (L.kind + 9)) = w6 := ⟨_, rfl⟩; have y6 : Below a3.heap.size a3 c3 := by { rw [← e6]; exact y3.setCell (Nat.le_refl _) _ }; have P4 := Lib.hid (show LB c3 a3.heap.size M4 z1 z2 z3 z4 from ⟨by { rw [← e6, HM4.out]; exact BoxF.to_kind x3 _ }, (Q4.out.below y6).to (by { rw [HM4.out]; exact ⟨rfl, rfl, rfl, rfl⟩ })⟩); have P0 := Lib.hid (P0.out.below y6); have P1 := Lib.hid (P1.out.below y6); have P2 := Lib.hid (P2.out.below y6); have P3 := Lib.hid (P3.out.below y6); have BB := Lib.hid (trans_below BB.out y6); clear x3 y3 y6; have kr : c3.cell? ⟨w2.heap.size, 0, none⟩ = some (.int .i64 row) := by { have e : lc L s1 s2 s3 s4 0 = .int .i64 row := by { show Value.int .i64 L.row = _; rw [HR.out] }; rw [← e]; exact P0.out.box.cell 0 (by omega) })
    | (go_at_call 12; (with_reducible refine (RT0.out s1 s2 s3 s4 _ P0.out.read (HL.out.below BB.out)).mono ?_); rintro e d0 ⟨rfl, b8⟩; have P0 := Lib.hid (P0.out.below b8); have P1 := Lib.hid (P1.out.below b8); have P2 := Lib.hid (P2.out.below b8); have P3 := Lib.hid (P3.out.below b8); have P4 := Lib.hid (P4.out.below b8); have BB := Lib.hid (trans_below BB.out b8); clear b8)
    | ((with_reducible refine wpList_lineOf ?hw (.tmp 9) rfl a0.heap.size ?hx M1 t1 t2 t3 t4 P1.out.box ?_); (case hw => rfl); (case hx => rfl))
    | (go_at_call 12; (with_reducible refine (RT1.out t1 t2 t3 t4 _ P1.out.read (HL.out.below BB.out)).mono ?_); rintro e d1 ⟨rfl, b8⟩; have P0 := Lib.hid (P0.out.below b8); have P1 := Lib.hid (P1.out.below b8); have P2 := Lib.hid (P2.out.below b8); have P3 := Lib.hid (P3.out.below b8); have P4 := Lib.hid (P4.out.below b8); have BB := Lib.hid (trans_below BB.out b8); clear b8)
    | ((with_reducible refine wpList_lineOf ?hw (.tmp 10) rfl a1.heap.size ?hx M2 u1 u2 u3 u4 P2.out.box ?_); (case hw => rfl); (case hx => rfl))
    | (go_at_call 12; (with_reducible refine (RT2.out u1 u2 u3 u4 _ P2.out.read (HL.out.below BB.out)).mono ?_); rintro e d2 ⟨rfl, b8⟩; have P0 := Lib.hid (P0.out.below b8); have P1 := Lib.hid (P1.out.below b8); have P2 := Lib.hid (P2.out.below b8); have P3 := Lib.hid (P3.out.below b8); have P4 := Lib.hid (P4.out.below b8); have BB := Lib.hid (trans_below BB.out b8); clear b8)
    | ((with_reducible refine wpList_lineOf ?hw (.tmp 11) rfl a2.heap.size ?hx M3 j1 j2 j3 j4 P3.out.box ?_); (case hw => rfl); (case hx => rfl))
    | (go_at_call 12; (with_reducible refine (RT3.out j1 j2 j3 j4 _ P3.out.read (HL.out.below BB.out)).mono ?_); rintro e d3 ⟨rfl, b8⟩; have P0 := Lib.hid (P0.out.below b8); have P1 := Lib.hid (P1.out.below b8); have P2 := Lib.hid (P2.out.below b8); have P3 := Lib.hid (P3.out.below b8); have P4 := Lib.hid (P4.out.below b8); have BB := Lib.hid (trans_below BB.out b8); clear b8)
    | ((with_reducible refine wpList_lineOf ?hw (.tmp 12) rfl a3.heap.size ?hx M4 z1 z2 z3 z4 P4.out.box ?_); (case hw => rfl); (case hx => rfl))
    | (go_at_call 12; (with_reducible refine (RT4.out z1 z2 z3 z4 _ P4.out.read (HL.out.below BB.out)).mono ?_); rintro e d4 ⟨rfl, b8⟩; have P0 := Lib.hid (P0.out.below b8); have P1 := Lib.hid (P1.out.below b8); have P2 := Lib.hid (P2.out.below b8); have P3 := Lib.hid (P3.out.below b8); have P4 := Lib.hid (P4.out.below b8); have BB := Lib.hid (trans_below BB.out b8); clear b8)
    | (go_at_call 10; (with_reducible refine (SM.out s1 s2 s3 s4 t1 t2 t3 t4 _ P0.out.read P1.out.read).mono ?_); rintro e d9 ⟨rfl, b8⟩; have P0 := Lib.hid (P0.out.below b8); have P1 := Lib.hid (P1.out.below b8); have P2 := Lib.hid (P2.out.below b8); have P3 := Lib.hid (P3.out.below b8); have P4 := Lib.hid (P4.out.below b8); have BB := Lib.hid (trans_below BB.out b8); clear b8))
  go_ret
  exact ⟨rfl, BB.out⟩
theorem rights_walk (A : Option Addr) (n c : Nat) (ws : List (List UInt8)) (row other : Int) (w : World) (h : SSl w A n c ws) (hl : LdS w) (r0 : -9223372036854775808 ≤ row) (r1 : row ≤ 9223372036854775807) (o0 : -9223372036854775808 ≤ other) (o1 : other ≤ 9223372036854775807) :
    Calls Tryz.prog 4 #[.slice A n c, .int .i64 row, .int .i64 other] w fun e w' => e = .returned (.bool true) ∧ Below w.heap.size w w' := by
  cases hg : greatB ws with
  | true => exact rights_no A n c ws row other w h hl (.inl hg)
  | false =>
    by_cases he : rdE ws row = 0
    · exact rights_yes A n c ws row other w h hl hg he r0 r1 o0 o1
    · exact rights_no A n c ws row other w h hl (.inr ⟨hg, he⟩)
end Go.Proofs.YtpbomfhlghljdaaGreatDoor
