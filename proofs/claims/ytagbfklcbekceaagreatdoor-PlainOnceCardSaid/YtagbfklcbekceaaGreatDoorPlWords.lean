/- Package plain: join, native, list, port, Words, of lines that were read. (Made by mk-plwords.py.) -/
import Derived.Test.YtagbfklcbekceaaGreatDoorPlLib
import Derived.Test.YtagbfklcbekceaaGreatDoorSeqT
namespace Go.Proofs.YtagbfklcbekceaaGreatDoor
open Go.RowKit

/-- texts, as a call hands them back -/
def GotT (w : World) (ps : List (List UInt8)) (e : Ending) (w' : World) : Prop := ∃ A n c, e = .returned (.slice A n c) ∧ SSl w' A n c ps ∧ Below w.heap.size w w'
theorem txts_take (ps : List (List UInt8)) (k : Nat) (h : k < ps.length) : txts (ps.take (k + 1)) = txts (ps.take k ++ [ps.getD k []]) := by
  rw [List.take_succ_eq_append_getElem h]
  simp [List.getD, h]
set_option maxRecDepth 20000 in
set_option maxHeartbeats 2000000 in
theorem pljoin_any (A : Option Addr) (n c : Nat) (ps : List (List UInt8)) (w : World) (h : SSl w A n c ps) (hs : ∀ p ∈ ps, p.length ≤ 1000000) (hn : n ≤ 1000) : Calls Tryz.prog 20 #[.slice A n c] w (GotT w ps) := by
  obtain ⟨i0, hi, hz0, hz1, hz2⟩ := info_parts Tryz.info9
  have Hi := Lib.hid hi; have Hz0 := Lib.hid hz0; have Hz1 := Lib.hid hz1; have Hz2 := Lib.hid hz2
  clear hi hz0 hz1 hz2
  have hl := h.len
  have hle := h.le
  have hcap := h.cap
  have H := Lib.hid h
  have HS := Lib.hid hs
  have HL := Lib.hid hl
  clear h hs hl
  go_enter Tryz.func20, Tryz.ntmps20
  go_wp2_with (at_make; refine wpList_make_own _ rfl _ _ 40 rfl w.heap.size 9 i0 (.string ⟨#[]⟩) 1 Tryz.underlying40 Hi.out Hz0.out Hz1.out .i64 .i64 _ n rfl rfl rfl (by rw [Hz2.out]; omega) (by unfold maxLen; omega) (Nat.le_refl _) ?_; intro w0 hown0 hgrow0; have B0 := Lib.hid (show Below w.heap.size w w0 from (Below.refl _ _).grown hgrow0 (Nat.le_refl _) (fun _ h => by cases h)); have O0 := Lib.hid hown0; clear hown0 hgrow0)
  go_loopw [3, 11] (fun v i wr => ∃ k : Nat, i = .int .i64 k ∧ k ≤ n ∧ wr.ownsRow w.heap.size 9 1 v k (txts (ps.take k)) ∧ Below w.heap.size w wr) (fun _ i _ => match i with | .int _ x => (n - x).toNat | _ => 0)
  case atStart => exact ⟨0, rfl, by omega, O0.out, B0.out⟩
  case round =>
    obtain ⟨k, rfl, hk, ho, hb⟩ := hrel
    have O := Lib.hid ho
    have B := Lib.hid hb
    clear ho hb
    by_cases hlt : k < n
    · obtain ⟨b0, o0, rfl, hb0, hc0⟩ := H.out.at_ (by omega)
      have c0 := (B.out.cell (p := ⟨b0, o0 + k, none⟩) hb0).trans (hc0 k hlt)
      have hp := HS.out (ps.getD k []) (by simp [List.getD, show k < ps.length by rw [HL.out]; exact hlt])
      have T := Lib.hid (txts_take ps k (by rw [HL.out]; exact hlt))
      obtain ⟨A3, c3, rfl⟩ := own_shape O.out
      generalize ps.getD k [] = p at *
      have C := Lib.hid (fun w => tclone_any p w hp)
      generalize ps.take k = q at *
      have hlt2 : (k : Int) < (n : Int) := by omega
      clear hc0 hp
      go_wp2_with (first
        | (go_at_call 28; (with_reducible refine (C.out _).mono ?_); rintro e w1 ⟨rfl, hb1⟩; have B1 := Lib.hid (B.out.trans (hb1.mono B.out.size)); have O1 := Lib.hid (own_below O.out hb1); clear hb1)
        | (at_builtin; refine wpList_tapp rfl (.tmp 15) (.tmp 18) 40 rfl w.heap.size 9 i0 (.string ⟨#[]⟩) 16 Tryz.underlying40 Hi.out Hz0.out Hz1.out Hz2.out rfl _ _ q (by rfl) O1.out p w1.heap.size rfl (by rfl) (by unfold maxLen; omega) (by omega) B1.out.size ?_; intro v3 w3 hown3 hgrow3; have B3 := Lib.hid (below_app (B1.out.alloc B1.out.size _) (O1.out.alloc _) hgrow3); have O3 := Lib.hid hown3; clear hown3 hgrow3))
      go_roundw
      case rel => exact ⟨k + 1, by simp, by omega, by rw [T.out]; exact O3.out, B3.out⟩
      case measure => simp only []; omega
    · obtain rfl : k = n := by omega
      obtain ⟨A3, c3, rfl⟩ := own_shape O.out
      have S := Lib.hid (SSl.of_own O.out)
      have E := Lib.hid (show ps.take k = ps from List.take_of_length_le (by rw [HL.out]; omega))
      go_wp2
      go_ret
      exact ⟨_, _, _, rfl, by have := S.out; rwa [E.out] at this, B.out⟩

/-- a number, or a dash -/
def wvS (n : Int) : List UInt8 := if n = 0 then dash else wnS n
set_option maxRecDepth 20000 in
theorem plnative_any (x : Int) (h : -9223372036854775808 ≤ x ∧ x ≤ 9223372036854775807) (w : World) (hl : LdT w) : Calls Tryz.prog 44 #[.int .i64 x] w fun e w' => e = .returned (.string (str (wvS x))) ∧ Below w.heap.size w w' := by
  by_cases hx : x = 0
  · subst hx
    have E := Lib.hid (show wvS 0 = [45] from rfl)
    clear h hl
    go_enter Tryz.func44, Tryz.ntmps44
    go_wp2
    go_ret
    exact ⟨by rw [E.out]; rfl, Below.refl _ _⟩
  · have ne : (x == 0) = false := by simpa using hx
    have E := Lib.hid (show wvS x = wnS x from if_neg hx)
    have N := Lib.hid (numS_any x h w hl.num)
    clear h hl hx
    go_enter Tryz.func44, Tryz.ntmps44
    go_wp2_with (go_at_call 21; (with_reducible refine N.out.mono ?_); rintro e w1 ⟨rfl, hb1⟩)
    go_ret
    exact ⟨by rw [E.out]; rfl, hb1⟩
set_option maxRecDepth 20000 in
theorem pllist_any (A : Option Addr) (n c : Nat) (xs : List Int) (w : World) (h : ISl w .i64 A n c xs) (hn : n ≤ 1000) (hr : In64 xs) (hl : LdT w) : Calls Tryz.prog 26 #[.slice A n c] w fun e w' => e = .returned (.string (str (wlS wnS xs))) ∧ Below w.heap.size w w' := by
  have hlen := h.len
  by_cases hx : n = 0
  · subst hx
    obtain rfl : xs = [] := List.eq_nil_of_length_eq_zero hlen
    have E := Lib.hid (show wlS wnS [] = [45] from rfl)
    clear h hl hr hlen
    go_enter Tryz.func26, Tryz.ntmps26
    go_wp2
    go_ret
    exact ⟨by rw [E.out]; rfl, Below.refl _ _⟩
  · have ne : ((n : Int) == 0) = false := by simp; omega
    have E := Lib.hid (show wlS wnS xs = jn wnS xs from if_neg (by intro e; rw [e] at hlen; exact hx hlen.symm))
    have N := Lib.hid (listS_any A n c xs w h hn hr hl.num)
    clear h hl hx hr hlen
    go_enter Tryz.func26, Tryz.ntmps26
    go_wp2_with (go_at_call 47; (with_reducible refine N.out.mono ?_); rintro e w1 ⟨rfl, hb1⟩)
    go_ret
    exact ⟨by rw [E.out]; rfl, hb1⟩

set_option maxRecDepth 100000 in
set_option maxHeartbeats 4000000 in
theorem plw1 (L : LV) (s1 s2 s3 s4 : SlV) (w : World) (h : LRead w L s1 s2 s3 s4) (hw : Wrd L) (hk : L.kind = 1) (hr : wrW L = [sDevice, L.dev, wnS L.num, wmS L.mac]) (b_num : -9223372036854775808 ≤ L.num ∧ L.num ≤ 9223372036854775807) (hl : LdT w) :
    Calls Tryz.prog 14 #[lineV L s1 s2 s3 s4] w (GotT w (wrW L)) := by
  have P0 := Lib.hid (fun T => line_boxed w L s1 s2 s3 s4 T)
  have RT := Lib.hid (fun w' h => cright_any L s1 s2 s3 s4 w' h hw.ok)
  have hrg := hw.right
  rw [hrg] at RT
  have H := Lib.hid h
  have HL := Lib.hid hl
  have WR := Lib.hid hr
  have SH := Lib.hid (show ∀ p ∈ [sDevice, L.dev, wnS L.num, wmS L.mac], p.length ≤ 1000000 from fun p hp => Nat.le_trans (hw.words.2.2 p (by rw [hr]; exact hp)) (by decide))
  have K1 := Lib.hid hk
  have N_num := Lib.hid (fun w' hl => numS_any L.num b_num w' hl)
  clear h hl hw hr hrg hk b_num
  rw [show lineV L s1 s2 s3 s4 = .agg #[.int .i64 L.row, .int .i64 L.kind, .string (str L.dev), .string (str L.port), .string (str L.peer), .string (str L.far), .string (str L.name), .int .u64 L.mac, .int .u32 L.addr, .int .i64 L.bits, .int .i64 L.vlan, .int .i64 L.num, .int .i64 L.cost, .slice s1.A s1.n s1.c, .slice s2.A s2.n s2.c, .slice s3.A s3.n s3.c, .slice s4.A s4.n s4.c] from rfl]
  go_enter Tryz.func14, Tryz.ntmps14
  go_wp2_with (first
    | ((with_reducible refine wpList_lineOf ?hg (.tmp 1) ?ho w.heap.size ?hx L s1 s2 s3 s4 (P0.out _) ?_); (case hg => rfl); (case ho => rfl); (case hx => rfl))
    | (go_at_call 19; (with_reducible refine (RT.out _ (H.out.below ((Below.refl _ _).alloc (Nat.le_refl _) _))).mono ?_); rintro e w1 ⟨rfl, b1⟩; have X1 := Lib.hid ((P0.out _).below (by omega) b1); have B1 := Lib.hid (((Below.refl _ _).alloc (Nat.le_refl _) _).trans (b1.mono (by simp))); have t1 := X1.out.cell 1 (by omega); rw [show lc L s1 s2 s3 s4 1 = .int .i64 1 by show Value.int .i64 L.kind = _; rw [K1.out]] at t1; clear b1))
  have S0 := X1.out.lt (by omega)
  have t2 : w1.cell? ⟨w.heap.size, 2, none⟩ = some (.string (str L.dev)) := X1.out.cell 2 (by omega)
  have t11 : w1.cell? ⟨w.heap.size, 11, none⟩ = some (.int .i64 L.num) := X1.out.cell 11 (by omega)
  have t7 : w1.cell? ⟨w.heap.size, 7, none⟩ = some (.int .u64 L.mac) := X1.out.cell 7 (by omega)
  have KP := Lib.hid (show ∀ wx, Below w1.heap.size w1 wx → wx.cell? ⟨w.heap.size, 2, none⟩ = some (.string (str L.dev)) ∧ wx.cell? ⟨w.heap.size, 11, none⟩ = some (.int .i64 L.num) ∧ wx.cell? ⟨w.heap.size, 7, none⟩ = some (.int .u64 L.mac) ∧ LRead wx L s1 s2 s3 s4 ∧ LdT wx from fun wx hx =>
    ⟨(hx.cell (p := ⟨_, 2, none⟩) S0).trans t2, (hx.cell (p := ⟨_, 11, none⟩) S0).trans t11, (hx.cell (p := ⟨_, 7, none⟩) S0).trans t7, H.out.below (B1.out.trans (hx.mono B1.out.size)), HL.out.below (B1.out.trans (hx.mono B1.out.size))⟩)
  clear t2 t11 t7
  refine wp_region_tail (fun wx => Below w1.heap.size w1 wx) 8 (by kernel_rfl) (by kernel_rfl) ((Below.refl _ _).drew) ?_
  simp only [List.take_succ_cons, List.take_zero, List.drop_succ_cons, List.drop_zero]
  repeat
    first
      | (refine SeqT.pass rfl ?_; simp only [Act.put, List.setIfInBounds_toArray, List.set_cons_zero, List.set_cons_succ])
      | (refine SeqT.run ?_ rfl (fun wx hx => ?_) ?_
         rotate_left
         · obtain ⟨c2, c11, c7, ⟨hr1, hr2, hr3, hr4⟩, hlx⟩ := KP.out wx hx
           go_simp
           first
             | (refine StepRun.val ?_; exact hx)
             | (refine StepRun.call (v := .string (str (wnS L.num))) ?_; (with_reducible refine Calls.mono (N_num.out _ hlx.num) ?_); rintro e w' ⟨rfl, hb⟩; exact ⟨rfl, trans_below hx hb⟩)
             | (refine StepRun.call (v := .string (str (wmS L.mac))) ?_; (with_reducible refine Calls.mono (macS_any L.mac _) ?_); rintro e w' ⟨rfl, hb⟩; exact ⟨rfl, trans_below hx hb⟩)
         simp only [Act.put, List.setIfInBounds_toArray, List.set_cons_zero, List.set_cons_succ])
  refine SeqT.last (fun w5 h5 => ?_)
  have B5 := Lib.hid (B1.out.trans (h5.mono B1.out.size))
  have SL := Lib.hid (fun T => pljoin_any _ _ _ _ _ (ssl_lit w5 [sDevice, L.dev, wnS L.num, wmS L.mac] T (show 4 ≤ 1000 by decide)) SH.out (show 4 ≤ 1000 by decide))
  go_wp2_with (go_at_call 20; refine (SL.out _).mono ?_; rintro e w6 ⟨A6, n6, c6, rfl, s6, b6⟩)
  go_ret
  exact ⟨_, _, _, rfl, by rw [WR.out]; exact s6, trans_below (B5.out.alloc (Nat.le_trans (by simp) B5.out.size) _) b6⟩
set_option maxRecDepth 100000 in
set_option maxHeartbeats 4000000 in
theorem plw4 (L : LV) (s1 s2 s3 s4 : SlV) (w : World) (h : LRead w L s1 s2 s3 s4) (hw : Wrd L) (hk : L.kind = 4) (hr : wrW L = [sStatic, L.dev, wnS L.vlan, wmS L.mac, L.port]) (b_vlan : -9223372036854775808 ≤ L.vlan ∧ L.vlan ≤ 9223372036854775807) (hl : LdT w) :
    Calls Tryz.prog 14 #[lineV L s1 s2 s3 s4] w (GotT w (wrW L)) := by
  have P0 := Lib.hid (fun T => line_boxed w L s1 s2 s3 s4 T)
  have RT := Lib.hid (fun w' h => cright_any L s1 s2 s3 s4 w' h hw.ok)
  have hrg := hw.right
  rw [hrg] at RT
  have H := Lib.hid h
  have HL := Lib.hid hl
  have WR := Lib.hid hr
  have SH := Lib.hid (show ∀ p ∈ [sStatic, L.dev, wnS L.vlan, wmS L.mac, L.port], p.length ≤ 1000000 from fun p hp => Nat.le_trans (hw.words.2.2 p (by rw [hr]; exact hp)) (by decide))
  have K1 := Lib.hid hk
  have N_vlan := Lib.hid (fun w' hl => numS_any L.vlan b_vlan w' hl)
  clear h hl hw hr hrg hk b_vlan
  rw [show lineV L s1 s2 s3 s4 = .agg #[.int .i64 L.row, .int .i64 L.kind, .string (str L.dev), .string (str L.port), .string (str L.peer), .string (str L.far), .string (str L.name), .int .u64 L.mac, .int .u32 L.addr, .int .i64 L.bits, .int .i64 L.vlan, .int .i64 L.num, .int .i64 L.cost, .slice s1.A s1.n s1.c, .slice s2.A s2.n s2.c, .slice s3.A s3.n s3.c, .slice s4.A s4.n s4.c] from rfl]
  go_enter Tryz.func14, Tryz.ntmps14
  go_wp2_with (first
    | ((with_reducible refine wpList_lineOf ?hg (.tmp 1) ?ho w.heap.size ?hx L s1 s2 s3 s4 (P0.out _) ?_); (case hg => rfl); (case ho => rfl); (case hx => rfl))
    | (go_at_call 19; (with_reducible refine (RT.out _ (H.out.below ((Below.refl _ _).alloc (Nat.le_refl _) _))).mono ?_); rintro e w1 ⟨rfl, b1⟩; have X1 := Lib.hid ((P0.out _).below (by omega) b1); have B1 := Lib.hid (((Below.refl _ _).alloc (Nat.le_refl _) _).trans (b1.mono (by simp))); have t1 := X1.out.cell 1 (by omega); rw [show lc L s1 s2 s3 s4 1 = .int .i64 4 by show Value.int .i64 L.kind = _; rw [K1.out]] at t1; clear b1))
  have S0 := X1.out.lt (by omega)
  have t2 : w1.cell? ⟨w.heap.size, 2, none⟩ = some (.string (str L.dev)) := X1.out.cell 2 (by omega)
  have t10 : w1.cell? ⟨w.heap.size, 10, none⟩ = some (.int .i64 L.vlan) := X1.out.cell 10 (by omega)
  have t7 : w1.cell? ⟨w.heap.size, 7, none⟩ = some (.int .u64 L.mac) := X1.out.cell 7 (by omega)
  have t3 : w1.cell? ⟨w.heap.size, 3, none⟩ = some (.string (str L.port)) := X1.out.cell 3 (by omega)
  have KP := Lib.hid (show ∀ wx, Below w1.heap.size w1 wx → wx.cell? ⟨w.heap.size, 2, none⟩ = some (.string (str L.dev)) ∧ wx.cell? ⟨w.heap.size, 10, none⟩ = some (.int .i64 L.vlan) ∧ wx.cell? ⟨w.heap.size, 7, none⟩ = some (.int .u64 L.mac) ∧ wx.cell? ⟨w.heap.size, 3, none⟩ = some (.string (str L.port)) ∧ LRead wx L s1 s2 s3 s4 ∧ LdT wx from fun wx hx =>
    ⟨(hx.cell (p := ⟨_, 2, none⟩) S0).trans t2, (hx.cell (p := ⟨_, 10, none⟩) S0).trans t10, (hx.cell (p := ⟨_, 7, none⟩) S0).trans t7, (hx.cell (p := ⟨_, 3, none⟩) S0).trans t3, H.out.below (B1.out.trans (hx.mono B1.out.size)), HL.out.below (B1.out.trans (hx.mono B1.out.size))⟩)
  clear t2 t10 t7 t3
  refine wp_region_tail (fun wx => Below w1.heap.size w1 wx) 10 (by kernel_rfl) (by kernel_rfl) ((Below.refl _ _).drew) ?_
  simp only [List.take_succ_cons, List.take_zero, List.drop_succ_cons, List.drop_zero]
  repeat
    first
      | (refine SeqT.pass rfl ?_; simp only [Act.put, List.setIfInBounds_toArray, List.set_cons_zero, List.set_cons_succ])
      | (refine SeqT.run ?_ rfl (fun wx hx => ?_) ?_
         rotate_left
         · obtain ⟨c2, c10, c7, c3, ⟨hr1, hr2, hr3, hr4⟩, hlx⟩ := KP.out wx hx
           go_simp
           first
             | (refine StepRun.val ?_; exact hx)
             | (refine StepRun.call (v := .string (str (wnS L.vlan))) ?_; (with_reducible refine Calls.mono (N_vlan.out _ hlx.num) ?_); rintro e w' ⟨rfl, hb⟩; exact ⟨rfl, trans_below hx hb⟩)
             | (refine StepRun.call (v := .string (str (wmS L.mac))) ?_; (with_reducible refine Calls.mono (macS_any L.mac _) ?_); rintro e w' ⟨rfl, hb⟩; exact ⟨rfl, trans_below hx hb⟩)
         simp only [Act.put, List.setIfInBounds_toArray, List.set_cons_zero, List.set_cons_succ])
  refine SeqT.last (fun w5 h5 => ?_)
  have B5 := Lib.hid (B1.out.trans (h5.mono B1.out.size))
  have SL := Lib.hid (fun T => pljoin_any _ _ _ _ _ (ssl_lit w5 [sStatic, L.dev, wnS L.vlan, wmS L.mac, L.port] T (show 5 ≤ 1000 by decide)) SH.out (show 5 ≤ 1000 by decide))
  go_wp2_with (go_at_call 20; refine (SL.out _).mono ?_; rintro e w6 ⟨A6, n6, c6, rfl, s6, b6⟩)
  go_ret
  exact ⟨_, _, _, rfl, by rw [WR.out]; exact s6, trans_below (B5.out.alloc (Nat.le_trans (by simp) B5.out.size) _) b6⟩
set_option maxRecDepth 100000 in
set_option maxHeartbeats 4000000 in
theorem plw5 (L : LV) (s1 s2 s3 s4 : SlV) (w : World) (h : LRead w L s1 s2 s3 s4) (hw : Wrd L) (hk : L.kind = 5) (hr : wrW L = [sVtep, L.dev, waS L.addr]) (b_addr : 0 ≤ L.addr ∧ L.addr ≤ 4294967295) (hl : LdT w) :
    Calls Tryz.prog 14 #[lineV L s1 s2 s3 s4] w (GotT w (wrW L)) := by
  have P0 := Lib.hid (fun T => line_boxed w L s1 s2 s3 s4 T)
  have RT := Lib.hid (fun w' h => cright_any L s1 s2 s3 s4 w' h hw.ok)
  have hrg := hw.right
  rw [hrg] at RT
  have H := Lib.hid h
  have HL := Lib.hid hl
  have WR := Lib.hid hr
  have SH := Lib.hid (show ∀ p ∈ [sVtep, L.dev, waS L.addr], p.length ≤ 1000000 from fun p hp => Nat.le_trans (hw.words.2.2 p (by rw [hr]; exact hp)) (by decide))
  have K1 := Lib.hid hk
  have N_addr := Lib.hid (fun w' hl => addrS_any L.addr b_addr w' hl)
  clear h hl hw hr hrg hk b_addr
  rw [show lineV L s1 s2 s3 s4 = .agg #[.int .i64 L.row, .int .i64 L.kind, .string (str L.dev), .string (str L.port), .string (str L.peer), .string (str L.far), .string (str L.name), .int .u64 L.mac, .int .u32 L.addr, .int .i64 L.bits, .int .i64 L.vlan, .int .i64 L.num, .int .i64 L.cost, .slice s1.A s1.n s1.c, .slice s2.A s2.n s2.c, .slice s3.A s3.n s3.c, .slice s4.A s4.n s4.c] from rfl]
  go_enter Tryz.func14, Tryz.ntmps14
  go_wp2_with (first
    | ((with_reducible refine wpList_lineOf ?hg (.tmp 1) ?ho w.heap.size ?hx L s1 s2 s3 s4 (P0.out _) ?_); (case hg => rfl); (case ho => rfl); (case hx => rfl))
    | (go_at_call 19; (with_reducible refine (RT.out _ (H.out.below ((Below.refl _ _).alloc (Nat.le_refl _) _))).mono ?_); rintro e w1 ⟨rfl, b1⟩; have X1 := Lib.hid ((P0.out _).below (by omega) b1); have B1 := Lib.hid (((Below.refl _ _).alloc (Nat.le_refl _) _).trans (b1.mono (by simp))); have t1 := X1.out.cell 1 (by omega); rw [show lc L s1 s2 s3 s4 1 = .int .i64 5 by show Value.int .i64 L.kind = _; rw [K1.out]] at t1; clear b1))
  have S0 := X1.out.lt (by omega)
  have t2 : w1.cell? ⟨w.heap.size, 2, none⟩ = some (.string (str L.dev)) := X1.out.cell 2 (by omega)
  have t8 : w1.cell? ⟨w.heap.size, 8, none⟩ = some (.int .u32 L.addr) := X1.out.cell 8 (by omega)
  have KP := Lib.hid (show ∀ wx, Below w1.heap.size w1 wx → wx.cell? ⟨w.heap.size, 2, none⟩ = some (.string (str L.dev)) ∧ wx.cell? ⟨w.heap.size, 8, none⟩ = some (.int .u32 L.addr) ∧ LRead wx L s1 s2 s3 s4 ∧ LdT wx from fun wx hx =>
    ⟨(hx.cell (p := ⟨_, 2, none⟩) S0).trans t2, (hx.cell (p := ⟨_, 8, none⟩) S0).trans t8, H.out.below (B1.out.trans (hx.mono B1.out.size)), HL.out.below (B1.out.trans (hx.mono B1.out.size))⟩)
  clear t2 t8
  refine wp_region_tail (fun wx => Below w1.heap.size w1 wx) 5 (by kernel_rfl) (by kernel_rfl) ((Below.refl _ _).drew) ?_
  simp only [List.take_succ_cons, List.take_zero, List.drop_succ_cons, List.drop_zero]
  repeat
    first
      | (refine SeqT.pass rfl ?_; simp only [Act.put, List.setIfInBounds_toArray, List.set_cons_zero, List.set_cons_succ])
      | (refine SeqT.run ?_ rfl (fun wx hx => ?_) ?_
         rotate_left
         · obtain ⟨c2, c8, ⟨hr1, hr2, hr3, hr4⟩, hlx⟩ := KP.out wx hx
           go_simp
           first
             | (refine StepRun.val ?_; exact hx)
             | (refine StepRun.call (v := .string (str (waS L.addr))) ?_; (with_reducible refine Calls.mono (N_addr.out _ hlx.num) ?_); rintro e w' ⟨rfl, hb⟩; exact ⟨rfl, trans_below hx hb⟩)
         simp only [Act.put, List.setIfInBounds_toArray, List.set_cons_zero, List.set_cons_succ])
  refine SeqT.last (fun w5 h5 => ?_)
  have B5 := Lib.hid (B1.out.trans (h5.mono B1.out.size))
  have SL := Lib.hid (fun T => pljoin_any _ _ _ _ _ (ssl_lit w5 [sVtep, L.dev, waS L.addr] T (show 3 ≤ 1000 by decide)) SH.out (show 3 ≤ 1000 by decide))
  go_wp2_with (go_at_call 20; refine (SL.out _).mono ?_; rintro e w6 ⟨A6, n6, c6, rfl, s6, b6⟩)
  go_ret
  exact ⟨_, _, _, rfl, by rw [WR.out]; exact s6, trans_below (B5.out.alloc (Nat.le_trans (by simp) B5.out.size) _) b6⟩
set_option maxRecDepth 100000 in
set_option maxHeartbeats 4000000 in
theorem plw6 (L : LV) (s1 s2 s3 s4 : SlV) (w : World) (h : LRead w L s1 s2 s3 s4) (hw : Wrd L) (hk : L.kind = 6) (hr : wrW L = [sVni, L.dev, wnS L.vlan, wnS L.num]) (b_vlan : -9223372036854775808 ≤ L.vlan ∧ L.vlan ≤ 9223372036854775807) (b_num : -9223372036854775808 ≤ L.num ∧ L.num ≤ 9223372036854775807) (hl : LdT w) :
    Calls Tryz.prog 14 #[lineV L s1 s2 s3 s4] w (GotT w (wrW L)) := by
  have P0 := Lib.hid (fun T => line_boxed w L s1 s2 s3 s4 T)
  have RT := Lib.hid (fun w' h => cright_any L s1 s2 s3 s4 w' h hw.ok)
  have hrg := hw.right
  rw [hrg] at RT
  have H := Lib.hid h
  have HL := Lib.hid hl
  have WR := Lib.hid hr
  have SH := Lib.hid (show ∀ p ∈ [sVni, L.dev, wnS L.vlan, wnS L.num], p.length ≤ 1000000 from fun p hp => Nat.le_trans (hw.words.2.2 p (by rw [hr]; exact hp)) (by decide))
  have K1 := Lib.hid hk
  have N_vlan := Lib.hid (fun w' hl => numS_any L.vlan b_vlan w' hl)
  have N_num := Lib.hid (fun w' hl => numS_any L.num b_num w' hl)
  clear h hl hw hr hrg hk b_vlan b_num
  rw [show lineV L s1 s2 s3 s4 = .agg #[.int .i64 L.row, .int .i64 L.kind, .string (str L.dev), .string (str L.port), .string (str L.peer), .string (str L.far), .string (str L.name), .int .u64 L.mac, .int .u32 L.addr, .int .i64 L.bits, .int .i64 L.vlan, .int .i64 L.num, .int .i64 L.cost, .slice s1.A s1.n s1.c, .slice s2.A s2.n s2.c, .slice s3.A s3.n s3.c, .slice s4.A s4.n s4.c] from rfl]
  go_enter Tryz.func14, Tryz.ntmps14
  go_wp2_with (first
    | ((with_reducible refine wpList_lineOf ?hg (.tmp 1) ?ho w.heap.size ?hx L s1 s2 s3 s4 (P0.out _) ?_); (case hg => rfl); (case ho => rfl); (case hx => rfl))
    | (go_at_call 19; (with_reducible refine (RT.out _ (H.out.below ((Below.refl _ _).alloc (Nat.le_refl _) _))).mono ?_); rintro e w1 ⟨rfl, b1⟩; have X1 := Lib.hid ((P0.out _).below (by omega) b1); have B1 := Lib.hid (((Below.refl _ _).alloc (Nat.le_refl _) _).trans (b1.mono (by simp))); have t1 := X1.out.cell 1 (by omega); rw [show lc L s1 s2 s3 s4 1 = .int .i64 6 by show Value.int .i64 L.kind = _; rw [K1.out]] at t1; clear b1))
  have S0 := X1.out.lt (by omega)
  have t2 : w1.cell? ⟨w.heap.size, 2, none⟩ = some (.string (str L.dev)) := X1.out.cell 2 (by omega)
  have t10 : w1.cell? ⟨w.heap.size, 10, none⟩ = some (.int .i64 L.vlan) := X1.out.cell 10 (by omega)
  have t11 : w1.cell? ⟨w.heap.size, 11, none⟩ = some (.int .i64 L.num) := X1.out.cell 11 (by omega)
  have KP := Lib.hid (show ∀ wx, Below w1.heap.size w1 wx → wx.cell? ⟨w.heap.size, 2, none⟩ = some (.string (str L.dev)) ∧ wx.cell? ⟨w.heap.size, 10, none⟩ = some (.int .i64 L.vlan) ∧ wx.cell? ⟨w.heap.size, 11, none⟩ = some (.int .i64 L.num) ∧ LRead wx L s1 s2 s3 s4 ∧ LdT wx from fun wx hx =>
    ⟨(hx.cell (p := ⟨_, 2, none⟩) S0).trans t2, (hx.cell (p := ⟨_, 10, none⟩) S0).trans t10, (hx.cell (p := ⟨_, 11, none⟩) S0).trans t11, H.out.below (B1.out.trans (hx.mono B1.out.size)), HL.out.below (B1.out.trans (hx.mono B1.out.size))⟩)
  clear t2 t10 t11
  refine wp_region_tail (fun wx => Below w1.heap.size w1 wx) 8 (by kernel_rfl) (by kernel_rfl) ((Below.refl _ _).drew) ?_
  simp only [List.take_succ_cons, List.take_zero, List.drop_succ_cons, List.drop_zero]
  repeat
    first
      | (refine SeqT.pass rfl ?_; simp only [Act.put, List.setIfInBounds_toArray, List.set_cons_zero, List.set_cons_succ])
      | (refine SeqT.run ?_ rfl (fun wx hx => ?_) ?_
         rotate_left
         · obtain ⟨c2, c10, c11, ⟨hr1, hr2, hr3, hr4⟩, hlx⟩ := KP.out wx hx
           go_simp
           first
             | (refine StepRun.val ?_; exact hx)
             | (refine StepRun.call (v := .string (str (wnS L.vlan))) ?_; (with_reducible refine Calls.mono (N_vlan.out _ hlx.num) ?_); rintro e w' ⟨rfl, hb⟩; exact ⟨rfl, trans_below hx hb⟩)
             | (refine StepRun.call (v := .string (str (wnS L.num))) ?_; (with_reducible refine Calls.mono (N_num.out _ hlx.num) ?_); rintro e w' ⟨rfl, hb⟩; exact ⟨rfl, trans_below hx hb⟩)
         simp only [Act.put, List.setIfInBounds_toArray, List.set_cons_zero, List.set_cons_succ])
  refine SeqT.last (fun w5 h5 => ?_)
  have B5 := Lib.hid (B1.out.trans (h5.mono B1.out.size))
  have SL := Lib.hid (fun T => pljoin_any _ _ _ _ _ (ssl_lit w5 [sVni, L.dev, wnS L.vlan, wnS L.num] T (show 4 ≤ 1000 by decide)) SH.out (show 4 ≤ 1000 by decide))
  go_wp2_with (go_at_call 20; refine (SL.out _).mono ?_; rintro e w6 ⟨A6, n6, c6, rfl, s6, b6⟩)
  go_ret
  exact ⟨_, _, _, rfl, by rw [WR.out]; exact s6, trans_below (B5.out.alloc (Nat.le_trans (by simp) B5.out.size) _) b6⟩
set_option maxRecDepth 100000 in
set_option maxHeartbeats 4000000 in
theorem plw7 (L : LV) (s1 s2 s3 s4 : SlV) (w : World) (h : LRead w L s1 s2 s3 s4) (hw : Wrd L) (hk : L.kind = 7) (hr : wrW L = [sFlood, L.dev, wnS L.num, jn waS L.addrs]) (b_num : -9223372036854775808 ≤ L.num ∧ L.num ≤ 9223372036854775807) (b_addrs : InU32 L.addrs) (l_addrs : s4.n ≤ 1000) (hl : LdT w) :
    Calls Tryz.prog 14 #[lineV L s1 s2 s3 s4] w (GotT w (wrW L)) := by
  have P0 := Lib.hid (fun T => line_boxed w L s1 s2 s3 s4 T)
  have RT := Lib.hid (fun w' h => cright_any L s1 s2 s3 s4 w' h hw.ok)
  have hrg := hw.right
  rw [hrg] at RT
  have H := Lib.hid h
  have HL := Lib.hid hl
  have WR := Lib.hid hr
  have SH := Lib.hid (show ∀ p ∈ [sFlood, L.dev, wnS L.num, jn waS L.addrs], p.length ≤ 1000000 from fun p hp => Nat.le_trans (hw.words.2.2 p (by rw [hr]; exact hp)) (by decide))
  have K1 := Lib.hid hk
  have N_num := Lib.hid (fun w' hl => numS_any L.num b_num w' hl)
  have N_addrs := Lib.hid (fun w' h hl => addrsS_any s4.A s4.n s4.c L.addrs w' h l_addrs b_addrs hl)
  clear h hl hw hr hrg hk b_num b_addrs l_addrs
  rw [show lineV L s1 s2 s3 s4 = .agg #[.int .i64 L.row, .int .i64 L.kind, .string (str L.dev), .string (str L.port), .string (str L.peer), .string (str L.far), .string (str L.name), .int .u64 L.mac, .int .u32 L.addr, .int .i64 L.bits, .int .i64 L.vlan, .int .i64 L.num, .int .i64 L.cost, .slice s1.A s1.n s1.c, .slice s2.A s2.n s2.c, .slice s3.A s3.n s3.c, .slice s4.A s4.n s4.c] from rfl]
  go_enter Tryz.func14, Tryz.ntmps14
  go_wp2_with (first
    | ((with_reducible refine wpList_lineOf ?hg (.tmp 1) ?ho w.heap.size ?hx L s1 s2 s3 s4 (P0.out _) ?_); (case hg => rfl); (case ho => rfl); (case hx => rfl))
    | (go_at_call 19; (with_reducible refine (RT.out _ (H.out.below ((Below.refl _ _).alloc (Nat.le_refl _) _))).mono ?_); rintro e w1 ⟨rfl, b1⟩; have X1 := Lib.hid ((P0.out _).below (by omega) b1); have B1 := Lib.hid (((Below.refl _ _).alloc (Nat.le_refl _) _).trans (b1.mono (by simp))); have t1 := X1.out.cell 1 (by omega); rw [show lc L s1 s2 s3 s4 1 = .int .i64 7 by show Value.int .i64 L.kind = _; rw [K1.out]] at t1; clear b1))
  have S0 := X1.out.lt (by omega)
  have t2 : w1.cell? ⟨w.heap.size, 2, none⟩ = some (.string (str L.dev)) := X1.out.cell 2 (by omega)
  have t11 : w1.cell? ⟨w.heap.size, 11, none⟩ = some (.int .i64 L.num) := X1.out.cell 11 (by omega)
  have t16 : w1.cell? ⟨w.heap.size, 16, none⟩ = some (.slice s4.A s4.n s4.c) := X1.out.cell 16 (by omega)
  have KP := Lib.hid (show ∀ wx, Below w1.heap.size w1 wx → wx.cell? ⟨w.heap.size, 2, none⟩ = some (.string (str L.dev)) ∧ wx.cell? ⟨w.heap.size, 11, none⟩ = some (.int .i64 L.num) ∧ wx.cell? ⟨w.heap.size, 16, none⟩ = some (.slice s4.A s4.n s4.c) ∧ LRead wx L s1 s2 s3 s4 ∧ LdT wx from fun wx hx =>
    ⟨(hx.cell (p := ⟨_, 2, none⟩) S0).trans t2, (hx.cell (p := ⟨_, 11, none⟩) S0).trans t11, (hx.cell (p := ⟨_, 16, none⟩) S0).trans t16, H.out.below (B1.out.trans (hx.mono B1.out.size)), HL.out.below (B1.out.trans (hx.mono B1.out.size))⟩)
  clear t2 t11 t16
  refine wp_region_tail (fun wx => Below w1.heap.size w1 wx) 8 (by kernel_rfl) (by kernel_rfl) ((Below.refl _ _).drew) ?_
  simp only [List.take_succ_cons, List.take_zero, List.drop_succ_cons, List.drop_zero]
  repeat
    first
      | (refine SeqT.pass rfl ?_; simp only [Act.put, List.setIfInBounds_toArray, List.set_cons_zero, List.set_cons_succ])
      | (refine SeqT.run ?_ rfl (fun wx hx => ?_) ?_
         rotate_left
         · obtain ⟨c2, c11, c16, ⟨hr1, hr2, hr3, hr4⟩, hlx⟩ := KP.out wx hx
           go_simp
           first
             | (refine StepRun.val ?_; exact hx)
             | (refine StepRun.call (v := .string (str (wnS L.num))) ?_; (with_reducible refine Calls.mono (N_num.out _ hlx.num) ?_); rintro e w' ⟨rfl, hb⟩; exact ⟨rfl, trans_below hx hb⟩)
             | (refine StepRun.call (v := .string (str (jn waS L.addrs))) ?_; (with_reducible refine Calls.mono (N_addrs.out _ hr4 hlx.num) ?_); rintro e w' ⟨rfl, hb⟩; exact ⟨rfl, trans_below hx hb⟩)
         simp only [Act.put, List.setIfInBounds_toArray, List.set_cons_zero, List.set_cons_succ])
  refine SeqT.last (fun w5 h5 => ?_)
  have B5 := Lib.hid (B1.out.trans (h5.mono B1.out.size))
  have SL := Lib.hid (fun T => pljoin_any _ _ _ _ _ (ssl_lit w5 [sFlood, L.dev, wnS L.num, jn waS L.addrs] T (show 4 ≤ 1000 by decide)) SH.out (show 4 ≤ 1000 by decide))
  go_wp2_with (go_at_call 20; refine (SL.out _).mono ?_; rintro e w6 ⟨A6, n6, c6, rfl, s6, b6⟩)
  go_ret
  exact ⟨_, _, _, rfl, by rw [WR.out]; exact s6, trans_below (B5.out.alloc (Nat.le_trans (by simp) B5.out.size) _) b6⟩
set_option maxRecDepth 100000 in
set_option maxHeartbeats 4000000 in
theorem plw8 (L : LV) (s1 s2 s3 s4 : SlV) (w : World) (h : LRead w L s1 s2 s3 s4) (hw : Wrd L) (hk : L.kind = 8) (hr : wrW L = [sVrf, L.dev, L.name, wlS wnS L.imports, wlS wnS L.exports]) (b_imports : In64 L.imports) (l_imports : s2.n ≤ 1000) (b_exports : In64 L.exports) (l_exports : s3.n ≤ 1000) (hl : LdT w) :
    Calls Tryz.prog 14 #[lineV L s1 s2 s3 s4] w (GotT w (wrW L)) := by
  have P0 := Lib.hid (fun T => line_boxed w L s1 s2 s3 s4 T)
  have RT := Lib.hid (fun w' h => cright_any L s1 s2 s3 s4 w' h hw.ok)
  have hrg := hw.right
  rw [hrg] at RT
  have H := Lib.hid h
  have HL := Lib.hid hl
  have WR := Lib.hid hr
  have SH := Lib.hid (show ∀ p ∈ [sVrf, L.dev, L.name, wlS wnS L.imports, wlS wnS L.exports], p.length ≤ 1000000 from fun p hp => Nat.le_trans (hw.words.2.2 p (by rw [hr]; exact hp)) (by decide))
  have K1 := Lib.hid hk
  have N_imports := Lib.hid (fun w' h hl => pllist_any s2.A s2.n s2.c L.imports w' h l_imports b_imports hl)
  have N_exports := Lib.hid (fun w' h hl => pllist_any s3.A s3.n s3.c L.exports w' h l_exports b_exports hl)
  clear h hl hw hr hrg hk b_imports l_imports b_exports l_exports
  rw [show lineV L s1 s2 s3 s4 = .agg #[.int .i64 L.row, .int .i64 L.kind, .string (str L.dev), .string (str L.port), .string (str L.peer), .string (str L.far), .string (str L.name), .int .u64 L.mac, .int .u32 L.addr, .int .i64 L.bits, .int .i64 L.vlan, .int .i64 L.num, .int .i64 L.cost, .slice s1.A s1.n s1.c, .slice s2.A s2.n s2.c, .slice s3.A s3.n s3.c, .slice s4.A s4.n s4.c] from rfl]
  go_enter Tryz.func14, Tryz.ntmps14
  go_wp2_with (first
    | ((with_reducible refine wpList_lineOf ?hg (.tmp 1) ?ho w.heap.size ?hx L s1 s2 s3 s4 (P0.out _) ?_); (case hg => rfl); (case ho => rfl); (case hx => rfl))
    | (go_at_call 19; (with_reducible refine (RT.out _ (H.out.below ((Below.refl _ _).alloc (Nat.le_refl _) _))).mono ?_); rintro e w1 ⟨rfl, b1⟩; have X1 := Lib.hid ((P0.out _).below (by omega) b1); have B1 := Lib.hid (((Below.refl _ _).alloc (Nat.le_refl _) _).trans (b1.mono (by simp))); have t1 := X1.out.cell 1 (by omega); rw [show lc L s1 s2 s3 s4 1 = .int .i64 8 by show Value.int .i64 L.kind = _; rw [K1.out]] at t1; clear b1))
  have S0 := X1.out.lt (by omega)
  have t2 : w1.cell? ⟨w.heap.size, 2, none⟩ = some (.string (str L.dev)) := X1.out.cell 2 (by omega)
  have t6 : w1.cell? ⟨w.heap.size, 6, none⟩ = some (.string (str L.name)) := X1.out.cell 6 (by omega)
  have t14 : w1.cell? ⟨w.heap.size, 14, none⟩ = some (.slice s2.A s2.n s2.c) := X1.out.cell 14 (by omega)
  have t15 : w1.cell? ⟨w.heap.size, 15, none⟩ = some (.slice s3.A s3.n s3.c) := X1.out.cell 15 (by omega)
  have KP := Lib.hid (show ∀ wx, Below w1.heap.size w1 wx → wx.cell? ⟨w.heap.size, 2, none⟩ = some (.string (str L.dev)) ∧ wx.cell? ⟨w.heap.size, 6, none⟩ = some (.string (str L.name)) ∧ wx.cell? ⟨w.heap.size, 14, none⟩ = some (.slice s2.A s2.n s2.c) ∧ wx.cell? ⟨w.heap.size, 15, none⟩ = some (.slice s3.A s3.n s3.c) ∧ LRead wx L s1 s2 s3 s4 ∧ LdT wx from fun wx hx =>
    ⟨(hx.cell (p := ⟨_, 2, none⟩) S0).trans t2, (hx.cell (p := ⟨_, 6, none⟩) S0).trans t6, (hx.cell (p := ⟨_, 14, none⟩) S0).trans t14, (hx.cell (p := ⟨_, 15, none⟩) S0).trans t15, H.out.below (B1.out.trans (hx.mono B1.out.size)), HL.out.below (B1.out.trans (hx.mono B1.out.size))⟩)
  clear t2 t6 t14 t15
  refine wp_region_tail (fun wx => Below w1.heap.size w1 wx) 10 (by kernel_rfl) (by kernel_rfl) ((Below.refl _ _).drew) ?_
  simp only [List.take_succ_cons, List.take_zero, List.drop_succ_cons, List.drop_zero]
  repeat
    first
      | (refine SeqT.pass rfl ?_; simp only [Act.put, List.setIfInBounds_toArray, List.set_cons_zero, List.set_cons_succ])
      | (refine SeqT.run ?_ rfl (fun wx hx => ?_) ?_
         rotate_left
         · obtain ⟨c2, c6, c14, c15, ⟨hr1, hr2, hr3, hr4⟩, hlx⟩ := KP.out wx hx
           go_simp
           first
             | (refine StepRun.val ?_; exact hx)
             | (refine StepRun.call (v := .string (str (wlS wnS L.imports))) ?_; (with_reducible refine Calls.mono (N_imports.out _ hr2 hlx) ?_); rintro e w' ⟨rfl, hb⟩; exact ⟨rfl, trans_below hx hb⟩)
             | (refine StepRun.call (v := .string (str (wlS wnS L.exports))) ?_; (with_reducible refine Calls.mono (N_exports.out _ hr3 hlx) ?_); rintro e w' ⟨rfl, hb⟩; exact ⟨rfl, trans_below hx hb⟩)
         simp only [Act.put, List.setIfInBounds_toArray, List.set_cons_zero, List.set_cons_succ])
  refine SeqT.last (fun w5 h5 => ?_)
  have B5 := Lib.hid (B1.out.trans (h5.mono B1.out.size))
  have SL := Lib.hid (fun T => pljoin_any _ _ _ _ _ (ssl_lit w5 [sVrf, L.dev, L.name, wlS wnS L.imports, wlS wnS L.exports] T (show 5 ≤ 1000 by decide)) SH.out (show 5 ≤ 1000 by decide))
  go_wp2_with (go_at_call 20; refine (SL.out _).mono ?_; rintro e w6 ⟨A6, n6, c6, rfl, s6, b6⟩)
  go_ret
  exact ⟨_, _, _, rfl, by rw [WR.out]; exact s6, trans_below (B5.out.alloc (Nat.le_trans (by simp) B5.out.size) _) b6⟩
set_option maxRecDepth 100000 in
set_option maxHeartbeats 4000000 in
theorem plw9 (L : LV) (s1 s2 s3 s4 : SlV) (w : World) (h : LRead w L s1 s2 s3 s4) (hw : Wrd L) (hk : L.kind = 9) (hr : wrW L = [sIrb, L.dev, wnS L.vlan, L.name, wpS L.addr L.bits]) (b_vlan : -9223372036854775808 ≤ L.vlan ∧ L.vlan ≤ 9223372036854775807) (b_addr : 0 ≤ L.addr ∧ L.addr ≤ 4294967295) (b_bits : 0 ≤ L.bits ∧ L.bits ≤ 32) (hl : LdT w) :
    Calls Tryz.prog 14 #[lineV L s1 s2 s3 s4] w (GotT w (wrW L)) := by
  have P0 := Lib.hid (fun T => line_boxed w L s1 s2 s3 s4 T)
  have RT := Lib.hid (fun w' h => cright_any L s1 s2 s3 s4 w' h hw.ok)
  have hrg := hw.right
  rw [hrg] at RT
  have H := Lib.hid h
  have HL := Lib.hid hl
  have WR := Lib.hid hr
  have SH := Lib.hid (show ∀ p ∈ [sIrb, L.dev, wnS L.vlan, L.name, wpS L.addr L.bits], p.length ≤ 1000000 from fun p hp => Nat.le_trans (hw.words.2.2 p (by rw [hr]; exact hp)) (by decide))
  have K1 := Lib.hid hk
  have N_vlan := Lib.hid (fun w' hl => numS_any L.vlan b_vlan w' hl)
  have N_pf := Lib.hid (fun w' hl => pfS_any L.addr L.bits b_addr b_bits w' hl)
  clear h hl hw hr hrg hk b_vlan b_addr b_bits
  rw [show lineV L s1 s2 s3 s4 = .agg #[.int .i64 L.row, .int .i64 L.kind, .string (str L.dev), .string (str L.port), .string (str L.peer), .string (str L.far), .string (str L.name), .int .u64 L.mac, .int .u32 L.addr, .int .i64 L.bits, .int .i64 L.vlan, .int .i64 L.num, .int .i64 L.cost, .slice s1.A s1.n s1.c, .slice s2.A s2.n s2.c, .slice s3.A s3.n s3.c, .slice s4.A s4.n s4.c] from rfl]
  go_enter Tryz.func14, Tryz.ntmps14
  go_wp2_with (first
    | ((with_reducible refine wpList_lineOf ?hg (.tmp 1) ?ho w.heap.size ?hx L s1 s2 s3 s4 (P0.out _) ?_); (case hg => rfl); (case ho => rfl); (case hx => rfl))
    | (go_at_call 19; (with_reducible refine (RT.out _ (H.out.below ((Below.refl _ _).alloc (Nat.le_refl _) _))).mono ?_); rintro e w1 ⟨rfl, b1⟩; have X1 := Lib.hid ((P0.out _).below (by omega) b1); have B1 := Lib.hid (((Below.refl _ _).alloc (Nat.le_refl _) _).trans (b1.mono (by simp))); have t1 := X1.out.cell 1 (by omega); rw [show lc L s1 s2 s3 s4 1 = .int .i64 9 by show Value.int .i64 L.kind = _; rw [K1.out]] at t1; clear b1))
  have S0 := X1.out.lt (by omega)
  have t2 : w1.cell? ⟨w.heap.size, 2, none⟩ = some (.string (str L.dev)) := X1.out.cell 2 (by omega)
  have t10 : w1.cell? ⟨w.heap.size, 10, none⟩ = some (.int .i64 L.vlan) := X1.out.cell 10 (by omega)
  have t6 : w1.cell? ⟨w.heap.size, 6, none⟩ = some (.string (str L.name)) := X1.out.cell 6 (by omega)
  have t8 : w1.cell? ⟨w.heap.size, 8, none⟩ = some (.int .u32 L.addr) := X1.out.cell 8 (by omega)
  have t9 : w1.cell? ⟨w.heap.size, 9, none⟩ = some (.int .i64 L.bits) := X1.out.cell 9 (by omega)
  have KP := Lib.hid (show ∀ wx, Below w1.heap.size w1 wx → wx.cell? ⟨w.heap.size, 2, none⟩ = some (.string (str L.dev)) ∧ wx.cell? ⟨w.heap.size, 10, none⟩ = some (.int .i64 L.vlan) ∧ wx.cell? ⟨w.heap.size, 6, none⟩ = some (.string (str L.name)) ∧ wx.cell? ⟨w.heap.size, 8, none⟩ = some (.int .u32 L.addr) ∧ wx.cell? ⟨w.heap.size, 9, none⟩ = some (.int .i64 L.bits) ∧ LRead wx L s1 s2 s3 s4 ∧ LdT wx from fun wx hx =>
    ⟨(hx.cell (p := ⟨_, 2, none⟩) S0).trans t2, (hx.cell (p := ⟨_, 10, none⟩) S0).trans t10, (hx.cell (p := ⟨_, 6, none⟩) S0).trans t6, (hx.cell (p := ⟨_, 8, none⟩) S0).trans t8, (hx.cell (p := ⟨_, 9, none⟩) S0).trans t9, H.out.below (B1.out.trans (hx.mono B1.out.size)), HL.out.below (B1.out.trans (hx.mono B1.out.size))⟩)
  clear t2 t10 t6 t8 t9
  refine wp_region_tail (fun wx => Below w1.heap.size w1 wx) 13 (by kernel_rfl) (by kernel_rfl) ((Below.refl _ _).drew) ?_
  simp only [List.take_succ_cons, List.take_zero, List.drop_succ_cons, List.drop_zero]
  repeat
    first
      | (refine SeqT.pass rfl ?_; simp only [Act.put, List.setIfInBounds_toArray, List.set_cons_zero, List.set_cons_succ])
      | (refine SeqT.run ?_ rfl (fun wx hx => ?_) ?_
         rotate_left
         · obtain ⟨c2, c10, c6, c8, c9, ⟨hr1, hr2, hr3, hr4⟩, hlx⟩ := KP.out wx hx
           go_simp
           first
             | (refine StepRun.val ?_; exact hx)
             | (refine StepRun.call (v := .string (str (wnS L.vlan))) ?_; (with_reducible refine Calls.mono (N_vlan.out _ hlx.num) ?_); rintro e w' ⟨rfl, hb⟩; exact ⟨rfl, trans_below hx hb⟩)
             | (refine StepRun.call (v := .string (str (wpS L.addr L.bits))) ?_; (with_reducible refine Calls.mono (N_pf.out _ hlx.num) ?_); rintro e w' ⟨rfl, hb⟩; exact ⟨rfl, trans_below hx hb⟩)
         simp only [Act.put, List.setIfInBounds_toArray, List.set_cons_zero, List.set_cons_succ])
  refine SeqT.last (fun w5 h5 => ?_)
  have B5 := Lib.hid (B1.out.trans (h5.mono B1.out.size))
  have SL := Lib.hid (fun T => pljoin_any _ _ _ _ _ (ssl_lit w5 [sIrb, L.dev, wnS L.vlan, L.name, wpS L.addr L.bits] T (show 5 ≤ 1000 by decide)) SH.out (show 5 ≤ 1000 by decide))
  go_wp2_with (go_at_call 20; refine (SL.out _).mono ?_; rintro e w6 ⟨A6, n6, c6, rfl, s6, b6⟩)
  go_ret
  exact ⟨_, _, _, rfl, by rw [WR.out]; exact s6, trans_below (B5.out.alloc (Nat.le_trans (by simp) B5.out.size) _) b6⟩
set_option maxRecDepth 100000 in
set_option maxHeartbeats 4000000 in
theorem plw3 (L : LV) (s1 s2 s3 s4 : SlV) (w : World) (h : LRead w L s1 s2 s3 s4) (hw : Wrd L) (hk : L.kind = 3) (hr : wrW L = [sLink, L.dev, L.port, L.peer, L.far])  (hl : LdT w) :
    Calls Tryz.prog 14 #[lineV L s1 s2 s3 s4] w (GotT w (wrW L)) := by
  have P0 := Lib.hid (fun T => line_boxed w L s1 s2 s3 s4 T)
  have RT := Lib.hid (fun w' h => cright_any L s1 s2 s3 s4 w' h hw.ok)
  have hrg := hw.right
  rw [hrg] at RT
  have H := Lib.hid h
  have HL := Lib.hid hl
  have WR := Lib.hid hr
  have SH := Lib.hid (show ∀ p ∈ [sLink, L.dev, L.port, L.peer, L.far], p.length ≤ 1000000 from fun p hp => Nat.le_trans (hw.words.2.2 p (by rw [hr]; exact hp)) (by decide))
  have K1 := Lib.hid hk
  clear h hl hw hr hrg hk 
  rw [show lineV L s1 s2 s3 s4 = .agg #[.int .i64 L.row, .int .i64 L.kind, .string (str L.dev), .string (str L.port), .string (str L.peer), .string (str L.far), .string (str L.name), .int .u64 L.mac, .int .u32 L.addr, .int .i64 L.bits, .int .i64 L.vlan, .int .i64 L.num, .int .i64 L.cost, .slice s1.A s1.n s1.c, .slice s2.A s2.n s2.c, .slice s3.A s3.n s3.c, .slice s4.A s4.n s4.c] from rfl]
  go_enter Tryz.func14, Tryz.ntmps14
  go_wp2_with (first
    | ((with_reducible refine wpList_lineOf ?hg (.tmp 1) ?ho w.heap.size ?hx L s1 s2 s3 s4 (P0.out _) ?_); (case hg => rfl); (case ho => rfl); (case hx => rfl))
    | (go_at_call 19; (with_reducible refine (RT.out _ (H.out.below ((Below.refl _ _).alloc (Nat.le_refl _) _))).mono ?_); rintro e w1 ⟨rfl, b1⟩; have X1 := Lib.hid ((P0.out _).below (by omega) b1); have B1 := Lib.hid (((Below.refl _ _).alloc (Nat.le_refl _) _).trans (b1.mono (by simp))); have t1 := X1.out.cell 1 (by omega); rw [show lc L s1 s2 s3 s4 1 = .int .i64 3 by show Value.int .i64 L.kind = _; rw [K1.out]] at t1; have t2 : w1.cell? ⟨w.heap.size, 2, none⟩ = some (.string (str L.dev)) := X1.out.cell 2 (by omega); have t3 : w1.cell? ⟨w.heap.size, 3, none⟩ = some (.string (str L.port)) := X1.out.cell 3 (by omega); have t4 : w1.cell? ⟨w.heap.size, 4, none⟩ = some (.string (str L.peer)) := X1.out.cell 4 (by omega); have t5 : w1.cell? ⟨w.heap.size, 5, none⟩ = some (.string (str L.far)) := X1.out.cell 5 (by omega); have SL := Lib.hid (fun T => pljoin_any _ _ _ _ _ (ssl_lit w1 [sLink, L.dev, L.port, L.peer, L.far] T (show 5 ≤ 1000 by decide)) SH.out (show 5 ≤ 1000 by decide)); clear b1)
    | (go_at_call 20; refine (SL.out _).mono ?_; rintro e w6 ⟨A6, n6, c6, rfl, s6, b6⟩))
  go_ret
  exact ⟨_, _, _, rfl, by rw [WR.out]; exact s6, trans_below (B1.out.alloc (Nat.le_trans (by simp) B1.out.size) _) b6⟩
set_option maxRecDepth 100000 in
set_option maxHeartbeats 4000000 in
theorem plport6 (L : LV) (s1 s2 s3 s4 : SlV) (w : World) (h : LRead w L s1 s2 s3 s4) (hw : Wrd L) (hk : L.tagged = []) (hr : wrW L = [sPort, L.dev, L.port, wnS L.cost, sAccess, wnS L.vlan]) (b_cost : -9223372036854775808 ≤ L.cost ∧ L.cost ≤ 9223372036854775807) (b_vlan : -9223372036854775808 ≤ L.vlan ∧ L.vlan ≤ 9223372036854775807) (hl : LdT w) :
    Calls Tryz.prog 23 #[lineV L s1 s2 s3 s4] w (GotT w (wrW L)) := by
  have P0 := Lib.hid (fun T => line_boxed w L s1 s2 s3 s4 T)
  have H := Lib.hid h
  have HL := Lib.hid hl
  have WR := Lib.hid hr
  have SH := Lib.hid (show ∀ p ∈ [sPort, L.dev, L.port, wnS L.cost, sAccess, wnS L.vlan], p.length ≤ 1000000 from fun p hp => Nat.le_trans (hw.words.2.2 p (by rw [hr]; exact hp)) (by decide))
  have K1 := Lib.hid hk
  have N_cost := Lib.hid (fun w' hl => numS_any L.cost b_cost w' hl)
  have N_vlan := Lib.hid (fun w' hl => numS_any L.vlan b_vlan w' hl)
  clear h hl hw hr hk b_cost b_vlan
  rw [show lineV L s1 s2 s3 s4 = .agg #[.int .i64 L.row, .int .i64 L.kind, .string (str L.dev), .string (str L.port), .string (str L.peer), .string (str L.far), .string (str L.name), .int .u64 L.mac, .int .u32 L.addr, .int .i64 L.bits, .int .i64 L.vlan, .int .i64 L.num, .int .i64 L.cost, .slice s1.A s1.n s1.c, .slice s2.A s2.n s2.c, .slice s3.A s3.n s3.c, .slice s4.A s4.n s4.c] from rfl]
  go_enter Tryz.func23, Tryz.ntmps23
  have hn := H.out.1.len
  rw [K1.out] at hn
  have hz : s1.n = 0 := hn.symm
  have i0 : ((s1.n : Int) == 0) = true := by simp [hz]
  clear hz hn
  have B1 := Lib.hid (fun T => show Below w.heap.size w (w.alloc (.cells #[.int .i64 L.row, .int .i64 L.kind, .string (str L.dev), .string (str L.port), .string (str L.peer), .string (str L.far), .string (str L.name), .int .u64 L.mac, .int .u32 L.addr, .int .i64 L.bits, .int .i64 L.vlan, .int .i64 L.num, .int .i64 L.cost, .slice s1.A s1.n s1.c, .slice s2.A s2.n s2.c, .slice s3.A s3.n s3.c, .slice s4.A s4.n s4.c] T)) from (Below.refl _ _).alloc (Nat.le_refl _) _)
  go_wp2
  have X1 := Lib.hid (P0.out 39)
  have B1 := Lib.hid (B1.out 39)
  generalize w.alloc (.cells #[.int .i64 L.row, .int .i64 L.kind, .string (str L.dev), .string (str L.port), .string (str L.peer), .string (str L.far), .string (str L.name), .int .u64 L.mac, .int .u32 L.addr, .int .i64 L.bits, .int .i64 L.vlan, .int .i64 L.num, .int .i64 L.cost, .slice s1.A s1.n s1.c, .slice s2.A s2.n s2.c, .slice s3.A s3.n s3.c, .slice s4.A s4.n s4.c] 39) = w1 at *
  have S0 := X1.out.lt (by omega)
  have t2 : w1.cell? ⟨w.heap.size, 2, none⟩ = some (.string (str L.dev)) := X1.out.cell 2 (by omega)
  have t3 : w1.cell? ⟨w.heap.size, 3, none⟩ = some (.string (str L.port)) := X1.out.cell 3 (by omega)
  have t12 : w1.cell? ⟨w.heap.size, 12, none⟩ = some (.int .i64 L.cost) := X1.out.cell 12 (by omega)
  have t10 : w1.cell? ⟨w.heap.size, 10, none⟩ = some (.int .i64 L.vlan) := X1.out.cell 10 (by omega)
  have KP := Lib.hid (show ∀ wx, Below w1.heap.size w1 wx → wx.cell? ⟨w.heap.size, 2, none⟩ = some (.string (str L.dev)) ∧ wx.cell? ⟨w.heap.size, 3, none⟩ = some (.string (str L.port)) ∧ wx.cell? ⟨w.heap.size, 12, none⟩ = some (.int .i64 L.cost) ∧ wx.cell? ⟨w.heap.size, 10, none⟩ = some (.int .i64 L.vlan) ∧ LRead wx L s1 s2 s3 s4 ∧ LdT wx from fun wx hx =>
    ⟨(hx.cell (p := ⟨_, 2, none⟩) S0).trans t2, (hx.cell (p := ⟨_, 3, none⟩) S0).trans t3, (hx.cell (p := ⟨_, 12, none⟩) S0).trans t12, (hx.cell (p := ⟨_, 10, none⟩) S0).trans t10, H.out.below (B1.out.trans (hx.mono B1.out.size)), HL.out.below (B1.out.trans (hx.mono B1.out.size))⟩)
  clear t2 t3 t12 t10
  refine wp_region_tail (fun wx => Below w1.heap.size w1 wx) 10 (by kernel_rfl) (by kernel_rfl) ((Below.refl _ _).drew) ?_
  simp only [List.take_succ_cons, List.take_zero, List.drop_succ_cons, List.drop_zero]
  repeat
    first
      | (refine SeqT.pass rfl ?_; simp only [Act.put, List.setIfInBounds_toArray, List.set_cons_zero, List.set_cons_succ])
      | (refine SeqT.run ?_ rfl (fun wx hx => ?_) ?_
         rotate_left
         · obtain ⟨c2, c3, c12, c10, ⟨hr1, hr2, hr3, hr4⟩, hlx⟩ := KP.out wx hx
           go_simp
           first
             | (refine StepRun.val ?_; exact hx)
             | (refine StepRun.call (v := .string (str (wnS L.cost))) ?_; (with_reducible refine Calls.mono (N_cost.out _ hlx.num) ?_); rintro e w' ⟨rfl, hb⟩; exact ⟨rfl, trans_below hx hb⟩)
             | (refine StepRun.call (v := .string (str (wnS L.vlan))) ?_; (with_reducible refine Calls.mono (N_vlan.out _ hlx.num) ?_); rintro e w' ⟨rfl, hb⟩; exact ⟨rfl, trans_below hx hb⟩)
         simp only [Act.put, List.setIfInBounds_toArray, List.set_cons_zero, List.set_cons_succ])
  refine SeqT.last (fun w5 h5 => ?_)
  have B5 := Lib.hid (B1.out.trans (h5.mono B1.out.size))
  have SL := Lib.hid (fun T => pljoin_any _ _ _ _ _ (ssl_lit w5 [sPort, L.dev, L.port, wnS L.cost, sAccess, wnS L.vlan] T (show 6 ≤ 1000 by decide)) SH.out (show 6 ≤ 1000 by decide))
  go_wp2_with (go_at_call 20; refine (SL.out _).mono ?_; rintro e w6 ⟨A6, n6, c6, rfl, s6, b6⟩)
  go_ret
  exact ⟨_, _, _, rfl, by rw [WR.out]; exact s6, trans_below (B5.out.alloc (Nat.le_trans (by simp) B5.out.size) _) b6⟩
set_option maxRecDepth 100000 in
set_option maxHeartbeats 4000000 in
theorem plport7 (L : LV) (s1 s2 s3 s4 : SlV) (w : World) (h : LRead w L s1 s2 s3 s4) (hw : Wrd L) (hk : L.tagged ≠ []) (hr : wrW L = [sPort, L.dev, L.port, wnS L.cost, sTrunk, wvS L.vlan, wlS wnS L.tagged]) (b_cost : -9223372036854775808 ≤ L.cost ∧ L.cost ≤ 9223372036854775807) (b_vlan : -9223372036854775808 ≤ L.vlan ∧ L.vlan ≤ 9223372036854775807) (b_tagged : In64 L.tagged) (l_tagged : s1.n ≤ 1000) (hl : LdT w) :
    Calls Tryz.prog 23 #[lineV L s1 s2 s3 s4] w (GotT w (wrW L)) := by
  have P0 := Lib.hid (fun T => line_boxed w L s1 s2 s3 s4 T)
  have H := Lib.hid h
  have HL := Lib.hid hl
  have WR := Lib.hid hr
  have SH := Lib.hid (show ∀ p ∈ [sPort, L.dev, L.port, wnS L.cost, sTrunk, wvS L.vlan, wlS wnS L.tagged], p.length ≤ 1000000 from fun p hp => Nat.le_trans (hw.words.2.2 p (by rw [hr]; exact hp)) (by decide))
  have K1 := Lib.hid hk
  have N_cost := Lib.hid (fun w' hl => numS_any L.cost b_cost w' hl)
  have N_vlan := Lib.hid (fun w' hl => plnative_any L.vlan b_vlan w' hl)
  have N_tagged := Lib.hid (fun w' h hl => pllist_any s1.A s1.n s1.c L.tagged w' h l_tagged b_tagged hl)
  clear h hl hw hr hk b_cost b_vlan b_tagged l_tagged
  rw [show lineV L s1 s2 s3 s4 = .agg #[.int .i64 L.row, .int .i64 L.kind, .string (str L.dev), .string (str L.port), .string (str L.peer), .string (str L.far), .string (str L.name), .int .u64 L.mac, .int .u32 L.addr, .int .i64 L.bits, .int .i64 L.vlan, .int .i64 L.num, .int .i64 L.cost, .slice s1.A s1.n s1.c, .slice s2.A s2.n s2.c, .slice s3.A s3.n s3.c, .slice s4.A s4.n s4.c] from rfl]
  go_enter Tryz.func23, Tryz.ntmps23
  have hn := H.out.1.len
  have hz : s1.n ≠ 0 := fun e => K1.out (List.eq_nil_of_length_eq_zero (hn.trans e))
  have i0 : ((s1.n : Int) == 0) = false := by simp; omega
  clear hz hn
  have B1 := Lib.hid (fun T => show Below w.heap.size w (w.alloc (.cells #[.int .i64 L.row, .int .i64 L.kind, .string (str L.dev), .string (str L.port), .string (str L.peer), .string (str L.far), .string (str L.name), .int .u64 L.mac, .int .u32 L.addr, .int .i64 L.bits, .int .i64 L.vlan, .int .i64 L.num, .int .i64 L.cost, .slice s1.A s1.n s1.c, .slice s2.A s2.n s2.c, .slice s3.A s3.n s3.c, .slice s4.A s4.n s4.c] T)) from (Below.refl _ _).alloc (Nat.le_refl _) _)
  go_wp2
  have X1 := Lib.hid (P0.out 39)
  have B1 := Lib.hid (B1.out 39)
  generalize w.alloc (.cells #[.int .i64 L.row, .int .i64 L.kind, .string (str L.dev), .string (str L.port), .string (str L.peer), .string (str L.far), .string (str L.name), .int .u64 L.mac, .int .u32 L.addr, .int .i64 L.bits, .int .i64 L.vlan, .int .i64 L.num, .int .i64 L.cost, .slice s1.A s1.n s1.c, .slice s2.A s2.n s2.c, .slice s3.A s3.n s3.c, .slice s4.A s4.n s4.c] 39) = w1 at *
  have S0 := X1.out.lt (by omega)
  have t2 : w1.cell? ⟨w.heap.size, 2, none⟩ = some (.string (str L.dev)) := X1.out.cell 2 (by omega)
  have t3 : w1.cell? ⟨w.heap.size, 3, none⟩ = some (.string (str L.port)) := X1.out.cell 3 (by omega)
  have t12 : w1.cell? ⟨w.heap.size, 12, none⟩ = some (.int .i64 L.cost) := X1.out.cell 12 (by omega)
  have t10 : w1.cell? ⟨w.heap.size, 10, none⟩ = some (.int .i64 L.vlan) := X1.out.cell 10 (by omega)
  have t13 : w1.cell? ⟨w.heap.size, 13, none⟩ = some (.slice s1.A s1.n s1.c) := X1.out.cell 13 (by omega)
  have KP := Lib.hid (show ∀ wx, Below w1.heap.size w1 wx → wx.cell? ⟨w.heap.size, 2, none⟩ = some (.string (str L.dev)) ∧ wx.cell? ⟨w.heap.size, 3, none⟩ = some (.string (str L.port)) ∧ wx.cell? ⟨w.heap.size, 12, none⟩ = some (.int .i64 L.cost) ∧ wx.cell? ⟨w.heap.size, 10, none⟩ = some (.int .i64 L.vlan) ∧ wx.cell? ⟨w.heap.size, 13, none⟩ = some (.slice s1.A s1.n s1.c) ∧ LRead wx L s1 s2 s3 s4 ∧ LdT wx from fun wx hx =>
    ⟨(hx.cell (p := ⟨_, 2, none⟩) S0).trans t2, (hx.cell (p := ⟨_, 3, none⟩) S0).trans t3, (hx.cell (p := ⟨_, 12, none⟩) S0).trans t12, (hx.cell (p := ⟨_, 10, none⟩) S0).trans t10, (hx.cell (p := ⟨_, 13, none⟩) S0).trans t13, H.out.below (B1.out.trans (hx.mono B1.out.size)), HL.out.below (B1.out.trans (hx.mono B1.out.size))⟩)
  clear t2 t3 t12 t10 t13
  refine wp_region_tail (fun wx => Below w1.heap.size w1 wx) 13 (by kernel_rfl) (by kernel_rfl) ((Below.refl _ _).drew) ?_
  simp only [List.take_succ_cons, List.take_zero, List.drop_succ_cons, List.drop_zero]
  repeat
    first
      | (refine SeqT.pass rfl ?_; simp only [Act.put, List.setIfInBounds_toArray, List.set_cons_zero, List.set_cons_succ])
      | (refine SeqT.run ?_ rfl (fun wx hx => ?_) ?_
         rotate_left
         · obtain ⟨c2, c3, c12, c10, c13, ⟨hr1, hr2, hr3, hr4⟩, hlx⟩ := KP.out wx hx
           go_simp
           first
             | (refine StepRun.val ?_; exact hx)
             | (refine StepRun.call (v := .string (str (wnS L.cost))) ?_; (with_reducible refine Calls.mono (N_cost.out _ hlx.num) ?_); rintro e w' ⟨rfl, hb⟩; exact ⟨rfl, trans_below hx hb⟩)
             | (refine StepRun.call (v := .string (str (wvS L.vlan))) ?_; (with_reducible refine Calls.mono (N_vlan.out _ hlx) ?_); rintro e w' ⟨rfl, hb⟩; exact ⟨rfl, trans_below hx hb⟩)
             | (refine StepRun.call (v := .string (str (wlS wnS L.tagged))) ?_; (with_reducible refine Calls.mono (N_tagged.out _ hr1 hlx) ?_); rintro e w' ⟨rfl, hb⟩; exact ⟨rfl, trans_below hx hb⟩)
         simp only [Act.put, List.setIfInBounds_toArray, List.set_cons_zero, List.set_cons_succ])
  refine SeqT.last (fun w5 h5 => ?_)
  have B5 := Lib.hid (B1.out.trans (h5.mono B1.out.size))
  have SL := Lib.hid (fun T => pljoin_any _ _ _ _ _ (ssl_lit w5 [sPort, L.dev, L.port, wnS L.cost, sTrunk, wvS L.vlan, wlS wnS L.tagged] T (show 7 ≤ 1000 by decide)) SH.out (show 7 ≤ 1000 by decide))
  go_wp2_with (go_at_call 20; refine (SL.out _).mono ?_; rintro e w6 ⟨A6, n6, c6, rfl, s6, b6⟩)
  go_ret
  exact ⟨_, _, _, rfl, by rw [WR.out]; exact s6, trans_below (B5.out.alloc (Nat.le_trans (by simp) B5.out.size) _) b6⟩
end Go.Proofs.YtagbfklcbekceaaGreatDoor
