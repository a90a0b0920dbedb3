/- The contracts of palingref03.ReadList and palingref03.ReadAddrs. -/
import Derived.Test.YtjmbgfhjdmoflaaDoorRefRis
namespace Go.Proofs.YtjmbgfhjdmoflaaDoor
open Go.RowKit

theorem allRd_next {rd : List UInt8 → Option Int} {P : List (List UInt8)} {xs : List Int} {k : Nat} {x : Int} (h : allRd rd (P.take k) = some xs) (hk : k < P.length) (hx : rd (P.getD k []) = some x) : allRd rd (P.take (k + 1)) = some (xs ++ [x]) := by
  rw [List.take_succ_eq_append_getElem hk]
  refine allRd_snoc h ?_
  rw [List.getD, List.getElem?_eq_getElem hk] at hx
  exact hx
theorem allRd_fail {rd : List UInt8 → Option Int} {P : List (List UInt8)} {k : Nat} (hk : k < P.length) (hx : rd (P.getD k []) = none) : allRd rd P = none := by
  have e : P = P.take k ++ P.getD k [] :: P.drop (k + 1) := by
    have h2 : P.drop k = P.getD k [] :: P.drop (k + 1) := by
      rw [List.drop_eq_getElem_cons hk, List.getD, List.getElem?_eq_getElem hk]; rfl
    rw [← h2, List.take_append_drop]
  rw [e]
  exact allRd_no hx
theorem allRd_pre {rd : List UInt8 → Option Int} {P : List (List UInt8)} {xs ys : List Int} {k : Nat} (h : allRd rd (P.take k) = some xs) (hp : allRd rd P = some ys) : ∃ zs, ys = xs ++ zs := by
  rw [← List.take_append_drop k P, allRd_app, h] at hp
  simp only [Option.bind_some, Option.map_eq_some_iff] at hp
  obtain ⟨zs, _, rfl⟩ := hp
  exact ⟨zs, rfl⟩
theorem getD_left {xs zs : List Int} {i : Nat} (h : i < xs.length) : (xs ++ zs).getD i 0 = xs.getD i 0 := by simp [List.getD, List.getElem?_append_left h]
theorem getD_right {xs zs : List Int} {i : Nat} (h : xs.length ≤ i) : (xs ++ zs).getD i 0 = zs.getD (i - xs.length) 0 := by simp [List.getD, List.getElem?_append_right h]
theorem rlF_down {rd : List UInt8 → Option Int} {l : List UInt8} {xs : List Int} {k : Nat} (h : allRd rd ((splitC l).take (k + 1)) = some xs) (hl : xs.length = k + 1) (h0 : 0 < k) (hd : xs.getD k 0 ≤ xs.getD (k - 1) 0) : rlF rd l = none := by
  cases hp : allRd rd (splitC l) with
  | none => exact rlF_none hp
  | some ys =>
    obtain ⟨zs, rfl⟩ := allRd_pre h hp
    refine rlF_no hp (risB_down h0 (by rw [List.length_append]; omega) ?_)
    rw [getD_left (by omega), getD_left (by omega)]
    exact hd
theorem inB_all {lo hi : Int} {a : List (List UInt8)} {xs : List Int} (h : allRd (rdI lo hi) a = some xs) : inB xs lo hi = true :=
  (inB_iff xs lo hi).2 fun x hx => by
    obtain ⟨p, hp⟩ := allRd_all h x hx
    have := nF_iff.1 hp
    exact ⟨this.2.2.1, this.2.2.2⟩
theorem part_len (l : List UInt8) (k : Nat) (h : k < (splitC l).length) : ((splitC l).getD k []).length ≤ l.length := by
  have := splitC_part l _ (List.getElem_mem h)
  rw [List.getD, List.getElem?_eq_getElem h]
  exact this
theorem refItem_no (p : List UInt8) (lo hi : Int) (w : World) (hs : p.length ≤ maxLen) (h : nF p lo hi = none) :
    Calls Tryd.prog 9 #[.string (str p), .int .i64 lo, .int .i64 hi] w fun e w' => e = .returned (.tuple #[.int .i64 0, .bool false]) ∧ Below w.heap.size w w' := by
  have h2 := refNumRead_any p lo hi w hs
  rw [(n_no h).1, (n_no h).2] at h2
  exact h2
theorem refItem_yes (p : List UInt8) (lo hi : Int) (w : World) (hs : p.length ≤ maxLen) (x : Int) (h : nF p lo hi = some x) :
    Calls Tryd.prog 9 #[.string (str p), .int .i64 lo, .int .i64 hi] w fun e w' => e = .returned (.tuple #[.int .i64 x, .bool true]) ∧ Below w.heap.size w w' := by
  have h2 := refNumRead_any p lo hi w hs
  rw [(n_yes h).1, (n_yes h).2] at h2
  exact h2
theorem refAddr_no (p : List UInt8) (w : World) (hs : p.length ≤ 1000000) (h : rdA p = none) :
    Calls Tryd.prog 37 #[.string (str p)] w fun e w' => e = .returned (.tuple #[.int .u32 0, .bool false]) ∧ Below w.heap.size w w' := by
  have h2 := refRead_any p w (by omega)
  rw [(rdA_no h).1, (rdA_no h).2] at h2
  exact h2
theorem refAddr_yes (p : List UInt8) (w : World) (hs : p.length ≤ 1000000) (x : Int) (h : rdA p = some x) :
    Calls Tryd.prog 37 #[.string (str p)] w fun e w' => e = .returned (.tuple #[.int .u32 x, .bool true]) ∧ Below w.heap.size w w' := by
  have h2 := refRead_any p w (by omega)
  rw [(rdA_yes h).1, (rdA_yes h).2] at h2
  exact h2

set_option maxRecDepth 100000 in
set_option maxHeartbeats 2000000 in
theorem refReadList_any (l : List UInt8) (lo hi : Int) (w : World) (hs : l.length ≤ 1000000) :
    Calls Tryd.prog 15 #[.string (str l), .int .i64 lo, .int .i64 hi] w (GotL .i64 (lsV (rdI lo hi) l) (lsB (rdI lo hi) l) w) := by
  obtain ⟨i0, hi', hz0, hz1, hz2⟩ := info_parts Tryd.info3
  have Hi := Lib.hid hi'; have Hz0 := Lib.hid hz0; have Hz1 := Lib.hid hz1; have Hz2 := Lib.hid hz2
  clear hi' hz0 hz1 hz2
  go_enter Tryd.func15, Tryd.ntmps15
  go_wp2_with (go_at_call 34; refine (split_any l _ hs).mono ?_; rintro e w0 ⟨A, n, c, rfl, hsl, hb0⟩)
  have hP1 := splitC_len l
  have hPn := hsl.1
  have hnc := hsl.2.1
  have hcm := hsl.2.2.1
  unfold maxLen at hcm
  obtain ⟨b, off, rfl, hb, hc⟩ := hsl.2.2.2 (by omega)
  have HC := Lib.hid hc
  have HPN := Lib.hid hPn
  have PL := Lib.hid (part_len l)
  rw [hPn] at hP1
  clear hc hPn hsl
  go_wp2
  go_loopw [9, 10] (fun v i wr => ∃ (k : Nat) (xs : List Int), k ≤ n ∧ i = .int .i64 (k : Int) ∧ xs.length = k ∧ allRd (rdI lo hi) ((splitC l).take k) = some xs ∧ wr.ownsRow w0.heap.size 3 1 v xs.length (xs.map (Value.int .i64)) ∧ Below w0.heap.size w0 wr) (fun _ i _ => n - (intOf i).toNat)
  case atStart => exact ⟨0, [], by omega, rfl, rfl, rfl, World.ownsRow_nil _ _ _ _, Below.refl _ _⟩
  case round =>
    obtain ⟨k, xs, hk, rfl, hxl, hall, hown, hbw⟩ := hrel
    obtain ⟨V, vc, rfl, hvc, hvm⟩ := own_slice hown
    have ALL := Lib.hid hall
    have HXL := Lib.hid hxl
    have hxn : xs.length ≤ n := by omega
    clear hall hxl
    by_cases hlt : k < n
    · have c0 : wr.cell? ⟨b, off + k, none⟩ = some (.string (str ((splitC l).getD k []))) := (hbw.cell (p := ⟨b, off + k, none⟩) hb).trans (HC.out k hlt)
      have hpl := PL.out k (by rw [HPN.out]; exact hlt)
      generalize hp : (splitC l).getD k [] = p at c0 hpl
      have HP := Lib.hid hp
      have HPL := Lib.hid (show p.length ≤ maxLen by unfold maxLen; omega)
      clear hp
      cases hx : nF p lo hi with
      | none =>
        have E := Lib.hid (rlF_none (rd := rdI lo hi) (l := l) (allRd_fail (k := k) (by rw [HPN.out]; exact hlt) (by rw [HP.out]; exact hx)))
        have HX := Lib.hid hx
        clear hx
        go_wp2_with (go_at_call 9; (with_reducible refine (refItem_no p lo hi _ HPL.out HX.out).mono ?_); rintro e w1 ⟨rfl, hb1⟩)
        exact bodyPost_ret (v := .tuple #[.slice none 0 0, .bool false]) (by simp [results, Tryd.results15, go_sem]) rfl (GotL.none_ E.out (trans_below (trans_below hb0 hbw) hb1) rfl)
      | some x =>
        have N := Lib.hid (allRd_next (rd := rdI lo hi) (k := k) ALL.out (by rw [HPN.out]; exact hlt) (by rw [HP.out]; exact hx))
        have HX := Lib.hid hx
        clear hx
        go_wp2_with (first
          | (go_at_call 9; (with_reducible refine (refItem_yes p lo hi _ HPL.out x HX.out).mono ?_); rintro e w1 ⟨rfl, hb1⟩; have hown1 := own_keep hown hb1; have hbb := trans_below hbw hb1)
          | (at_builtin; refine wpList_append_lies _ rfl (.tmp 33) (.tmp 35) 28 rfl w0.heap.size 3 i0 (.int .i64 0) 1 8 Tryd.underlying28 Hi.out Hz0.out Hz1.out Hz2.out rfl (by decide) _ _ _ (by rfl) (hown1.alloc _) ⟨w1.heap.size, 0, none⟩ 1 1 [.int .i64 x] (by rfl) rfl (World.news_of_block (heap_alloc_new w1 _)) (by simp [Value.oneCell']) (by omega) (by unfold maxLen; omega) (by omega) (by have := hbb.size; simp; omega) _ rfl ?_; intro g cap w3 hown3 hgrow3 _ _))
        have hend := list_more hbb hown1 hown3 hgrow3
        have hxl2 := Lib.hid (show (xs ++ [x]).length = k + 1 by rw [List.length_append, HXL.out]; rfl)
        clear hown hown1 hown3 hgrow3 hb1 hbw hbb
        go_wp2
        go_roundw
        case rel => exact ⟨k + 1, xs ++ [x], by omega, by go_num, hxl2.out, N.out, hend.1, hend.2⟩
        case measure => simp [intOf]; omega
    · obtain rfl : k = n := by omega
      have AL := Lib.hid (show allRd (rdI lo hi) (splitC l) = some xs by rw [← ALL.out, ← HPN.out, List.take_length])
      have hsl := Lib.hid (ISl.of_own hown)
      have hbb := trans_below hb0 hbw
      cases hr : risB xs with
      | false =>
        have E := Lib.hid (rlF_no AL.out hr)
        have HR := Lib.hid (risIn_no (lo := lo) (hi := hi) hr)
        clear hr
        go_wp2_with (go_at_call 21; (with_reducible refine (refRis_any V xs.length vc xs lo hi _ hsl.out).mono ?_); rintro e w1 ⟨rfl, hd1⟩; rw [HR.out])
        exact bodyPost_ret (v := .tuple #[.slice none 0 0, .bool false]) (by simp [results, Tryd.results15, go_sem]) rfl (GotL.none_ E.out (trans_below hbb hd1.below) rfl)
      | true =>
        have E := Lib.hid (rlF_yes AL.out hr)
        have HR := Lib.hid (show risIn xs lo hi = true by simp [risIn, hr, inB_all AL.out])
        clear hr
        go_wp2_with (go_at_call 21; (with_reducible refine (refRis_any V xs.length vc xs lo hi _ hsl.out).mono ?_); rintro e w1 ⟨rfl, hd1⟩; rw [HR.out])
        exact bodyPost_ret (v := .tuple #[.slice V xs.length vc, .bool true]) (by simp [results, Tryd.results15, go_sem]) rfl (GotL.some_ E.out (trans_below hbb hd1.below) (hsl.out.drew hd1) rfl)

set_option maxRecDepth 100000 in
set_option maxHeartbeats 2000000 in
theorem refReadAddrs_any (l : List UInt8) (w : World) (hs : l.length ≤ 1000000) :
    Calls Tryd.prog 17 #[.string (str l)] w (GotL .u32 (lsV rdA l) (lsB rdA l) w) := by
  obtain ⟨i0, hi', hz0, hz1, hz2⟩ := info_parts Tryd.info43
  have Hi := Lib.hid hi'; have Hz0 := Lib.hid hz0; have Hz1 := Lib.hid hz1; have Hz2 := Lib.hid hz2
  clear hi' hz0 hz1 hz2
  go_enter Tryd.func17, Tryd.ntmps17
  go_wp2_with (go_at_call 34; refine (split_any l _ hs).mono ?_; rintro e w0 ⟨A, n, c, rfl, hsl, hb0⟩)
  have hP1 := splitC_len l
  have hPn := hsl.1
  have hnc := hsl.2.1
  have hcm := hsl.2.2.1
  unfold maxLen at hcm
  obtain ⟨b, off, rfl, hb, hc⟩ := hsl.2.2.2 (by omega)
  have HC := Lib.hid hc
  have HPN := Lib.hid hPn
  have PL := Lib.hid (part_len l)
  rw [hPn] at hP1
  clear hc hPn hsl
  go_wp2
  go_loopw [5, 6] (fun v i wr => ∃ (k : Nat) (xs : List Int), k ≤ n ∧ k ≤ 16 ∧ i = .int .i64 (k : Int) ∧ xs.length = k ∧ Up xs k ∧ allRd rdA ((splitC l).take k) = some xs ∧ wr.ownsRow w0.heap.size 43 1 v xs.length (xs.map (Value.int .u32)) ∧ Below w0.heap.size w0 wr) (fun _ i _ => n - (intOf i).toNat)
  case atStart => exact ⟨0, [], by omega, by omega, rfl, rfl, Up.zero _, rfl, World.ownsRow_nil _ _ _ _, Below.refl _ _⟩
  case round =>
    obtain ⟨k, xs, hk, hk16, rfl, hxl, hup, hall, hown, hbw⟩ := hrel
    obtain ⟨V, vc, rfl, hvc, hvm⟩ := own_slice hown
    have HSL := Lib.hid (ISl.of_own (k := .u32) hown)
    have ALL := Lib.hid hall
    have HXL := Lib.hid hxl
    have U := Lib.hid hup
    have hxn : xs.length ≤ n := by omega
    clear hall hxl hup
    by_cases hlt : k < n
    · have c0 : wr.cell? ⟨b, off + k, none⟩ = some (.string (str ((splitC l).getD k []))) := (hbw.cell (p := ⟨b, off + k, none⟩) hb).trans (HC.out k hlt)
      have hpl := PL.out k (by rw [HPN.out]; exact hlt)
      generalize hp : (splitC l).getD k [] = p at c0 hpl
      have HP := Lib.hid hp
      have HPL := Lib.hid (show p.length ≤ 1000000 by omega)
      clear hp
      cases hx : rdA p with
      | none =>
        have E := Lib.hid (rlF_none (rd := rdA) (l := l) (allRd_fail (k := k) (by rw [HPN.out]; exact hlt) (by rw [HP.out]; exact hx)))
        have HX := Lib.hid hx
        clear hx
        go_wp2_with (go_at_call 37; (with_reducible refine (refAddr_no p _ HPL.out HX.out).mono ?_); rintro e w1 ⟨rfl, hb1⟩)
        exact bodyPost_ret (v := .tuple #[.slice none 0 0, .bool false]) (by simp [results, Tryd.results17, go_sem]) rfl (GotL.none_ E.out (trans_below (trans_below hb0 hbw) hb1) rfl)
      | some x =>
        have N := Lib.hid (allRd_next (rd := rdA) (k := k) ALL.out (by rw [HPN.out]; exact hlt) (by rw [HP.out]; exact hx))
        have HX := Lib.hid hx
        clear hx
        by_cases d1 : 16 ≤ k
        · have E := Lib.hid (rlF_many (rd := rdA) (l := l) (by rw [HPN.out]; omega))
          go_wp2_with (go_at_call 37; (with_reducible refine (refAddr_yes p _ HPL.out x HX.out).mono ?_); rintro e w1 ⟨rfl, hb1⟩)
          exact bodyPost_ret (v := .tuple #[.slice none 0 0, .bool false]) (by simp [results, Tryd.results17, go_sem]) rfl (GotL.none_ E.out (trans_below (trans_below hb0 hbw) hb1) rfl)
        by_cases k0 : 0 < k
        · have k1 : 1 ≤ k := k0
          have k2 : (1 : Int) ≤ (k : Int) := by omega
          obtain ⟨vb, voff, rfl, hvb, hvcell⟩ := HSL.out.2.2.2 (by rw [HXL.out]; exact k0)
          have c1 : wr.cell? ⟨vb, voff + (k - 1), none⟩ = some (.int .u32 (xs.getD (k - 1) 0)) := hvcell (k - 1) (by rw [HXL.out]; omega)
          have C1 := Lib.hid (fun (w1 : World) (hb1 : Below wr.heap.size wr w1) => (hb1.cell (p := ⟨vb, voff + (k - 1), none⟩) hvb).trans c1)
          clear hvcell c1
          have e3 : ((k : Int) - 1).toNat = k - 1 := by omega
          have hxk : (k : Int) - 1 < (xs.length : Int) := by have := HXL.out; omega
          generalize hy : xs.getD (k - 1) 0 = y at C1
          have HY := Lib.hid hy
          clear hy
          have LL := Lib.hid (show (xs ++ [x]).getD k 0 = x ∧ (xs ++ [x]).getD (k - 1) 0 = y by
            have hl := HXL.out
            refine ⟨?_, ?_⟩
            · rw [getD_right (by omega), hl]; simp
            · rw [getD_left (by omega), HY.out])
          by_cases d2 : x ≤ y
          · have E := Lib.hid (rlF_down (rd := rdA) (l := l) (k := k) N.out (by rw [List.length_append, HXL.out]; rfl) k0 (by rw [LL.out.1, LL.out.2]; exact d2))
            go_wp2_with (go_at_call 37; (with_reducible refine (refAddr_yes p _ HPL.out x HX.out).mono ?_); rintro e w1 ⟨rfl, hb1⟩; have c1 := C1.out w1 hb1)
            exact bodyPost_ret (v := .tuple #[.slice none 0 0, .bool false]) (by simp [results, Tryd.results17, go_sem]) rfl (GotL.none_ E.out (trans_below (trans_below hb0 hbw) hb1) rfl)
          · have U2 := Lib.hid (show Up (xs ++ [x]) (k + 1) from Up.next (fun i h0 h1 => by
              have := U.out i h0 h1
              rw [getD_left (by rw [HXL.out]; omega), getD_left (by rw [HXL.out]; omega)]
              exact this) (by rw [LL.out.1, LL.out.2]; omega))
            go_wp2_with (first
              | (go_at_call 37; (with_reducible refine (refAddr_yes p _ HPL.out x HX.out).mono ?_); rintro e w1 ⟨rfl, hb1⟩; have hown1 := own_keep hown hb1; have hbb := trans_below hbw hb1; have c1 := C1.out w1 hb1)
              | (at_builtin; refine wpList_append_lies _ rfl (.tmp 44) (.tmp 46) 29 rfl w0.heap.size 43 i0 (.int .u32 0) 1 4 Tryd.underlying29 Hi.out Hz0.out Hz1.out Hz2.out rfl (by decide) _ _ _ (by rfl) (hown1.alloc _) ⟨w1.heap.size, 0, none⟩ 1 1 [.int .u32 x] (by rfl) rfl (World.news_of_block (heap_alloc_new w1 _)) (by simp [Value.oneCell']) (by omega) (by unfold maxLen; omega) (by omega) (by have := hbb.size; simp; omega) _ rfl ?_; intro g cap w3 hown3 hgrow3 _ _))
            have hend := list_more hbb hown1 hown3 hgrow3
            have hxl2 := Lib.hid (show (xs ++ [x]).length = k + 1 by rw [List.length_append, HXL.out]; rfl)
            clear hown hown1 hown3 hgrow3 hb1 hbw hbb c1
            go_wp2
            go_roundw
            case rel => exact ⟨k + 1, xs ++ [x], by omega, by omega, by go_num, hxl2.out, U2.out, N.out, hend.1, hend.2⟩
            case measure => simp [intOf]; omega
        · have U2 := Lib.hid (show Up (xs ++ [x]) (k + 1) from (Up.one _).less (by omega))
          go_wp2_with (first
            | (go_at_call 37; (with_reducible refine (refAddr_yes p _ HPL.out x HX.out).mono ?_); rintro e w1 ⟨rfl, hb1⟩; have hown1 := own_keep hown hb1; have hbb := trans_below hbw hb1)
            | (at_builtin; refine wpList_append_lies _ rfl (.tmp 44) (.tmp 46) 29 rfl w0.heap.size 43 i0 (.int .u32 0) 1 4 Tryd.underlying29 Hi.out Hz0.out Hz1.out Hz2.out rfl (by decide) _ _ _ (by rfl) (hown1.alloc _) ⟨w1.heap.size, 0, none⟩ 1 1 [.int .u32 x] (by rfl) rfl (World.news_of_block (heap_alloc_new w1 _)) (by simp [Value.oneCell']) (by omega) (by unfold maxLen; omega) (by omega) (by have := hbb.size; simp; omega) _ rfl ?_; intro g cap w3 hown3 hgrow3 _ _))
          have hend := list_more hbb hown1 hown3 hgrow3
          have hxl2 := Lib.hid (show (xs ++ [x]).length = k + 1 by rw [List.length_append, HXL.out]; rfl)
          clear hown hown1 hown3 hgrow3 hb1 hbw hbb
          go_wp2
          go_roundw
          case rel => exact ⟨k + 1, xs ++ [x], by omega, by omega, by go_num, hxl2.out, U2.out, N.out, hend.1, hend.2⟩
          case measure => simp [intOf]; omega
    · obtain rfl : k = n := by omega
      have AL := Lib.hid (show allRd rdA (splitC l) = some xs by rw [← ALL.out, ← HPN.out, List.take_length])
      have E := Lib.hid (rlF_yes AL.out ((risB_iff xs).2 ⟨by rw [HXL.out]; omega, by rw [HXL.out]; omega, by rw [HXL.out]; exact U.out⟩))
      have hbb := trans_below hb0 hbw
      go_wp2
      exact bodyPost_ret (v := .tuple #[.slice V xs.length vc, .bool true]) (by simp [results, Tryd.results17, go_sem]) rfl (GotL.some_ E.out hbb HSL.out rfl)
end Go.Proofs.YtjmbgfhjdmoflaaDoor
