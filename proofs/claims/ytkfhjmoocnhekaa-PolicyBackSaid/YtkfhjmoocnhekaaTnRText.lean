/- The contracts of palingref14.Right, of any tenant that is not too big, and of palingref14.Text. -/
import Derived.Test.YtkfhjmoocnhekaaTnRight
namespace Go.Proofs.Ytkfhjmoocnhekaa
open Go.RowKit

/-- a tenant's texts and lists are not too long -/
structure TvSz (T : TV) : Prop where
  name : T.name.length ≤ 300
  devs : ∀ p ∈ T.devs, p.length ≤ 300
  ports : ∀ p ∈ T.ports, p.length ≤ 300
  nd : T.devs.length ≤ 40
  np : T.ports.length ≤ 40
noncomputable def rgTB (T : TV) : Bool := @decide (RgT T) (Classical.propDecidable _)
theorem rgTB_iff (T : TV) : rgTB T = true ↔ RgT T := by unfold rgTB; exact @decide_eq_true_iff _ (Classical.propDecidable _)
set_option maxRecDepth 20000 in
theorem rpright_no (T : TV) (s1 s2 : SlT) (w : World) (h : s1.n ≠ s2.n ∨ 16 < s1.n) (hc : s1.n ≤ 9223372036854775807 ∧ s2.n ≤ 9223372036854775807) : Calls Try.prog 14 #[tenV T s1 s2] w fun e w' => e = .returned (.bool false) ∧ Below w.heap.size w w' := by
  obtain ⟨A1, n1, c1⟩ := s1
  obtain ⟨A2, n2, c2⟩ := s2
  simp only [] at h hc
  unfold tenV
  simp only []
  by_cases hn : n1 = n2
  · subst hn
    have i0 : (16 : Int) < (n1 : Int) := by omega
    clear h
    go_enter Try.func14, Try.ntmps14
    go_wp2
    go_ret
    exact ⟨rfl, (Below.refl _ _).alloc (Nat.le_refl _) _⟩
  · have ne : ((n1 : Int) != (n2 : Int)) = true := by simp; omega
    clear h hn
    go_enter Try.func14, Try.ntmps14
    go_wp2
    go_ret
    exact ⟨rfl, (Below.refl _ _).alloc (Nat.le_refl _) _⟩
theorem rpright_any (T : TV) (s1 s2 : SlT) (w : World) (F : Nat → Prop) (h1 : RSl Rdr.str_ w F s1.A s1.n s1.c T.devs) (h2 : RSl Rdr.str_ w F s2.A s2.n s2.c T.ports) (hF : ∀ b, F b → b < w.heap.size) (hs : TvSz T) :
    Calls Try.prog 14 #[tenV T s1 s2] w fun e w' => e = .returned (.bool (rgTB T)) ∧ Below w.heap.size w w' := by
  by_cases hb : s1.n = s2.n ∧ s1.n ≤ 16
  · exact rpright_yes T s1 s2 w F h1 h2 hF (by have := hs.name; omega) (fun p hp => by have := hs.devs p hp; omega) (fun p hp => by have := hs.ports p hp; omega) hb.1 hb.2 (rgTB T) (rgTB_iff T)
  · have e : rgTB T = false := by
      cases hr : rgTB T with
      | false => rfl
      | true =>
        have := (rgTB_iff T).1 hr
        exact absurd ⟨by rw [← h1.len, ← h2.len]; exact this.1, by rw [← h1.len]; exact this.2.1⟩ hb
    rw [e]
    have q1 := h1.le
    have q2 := h1.cap
    have q3 := h2.le
    have q4 := h2.cap
    exact rpright_no T s1 s2 w (by omega) (by omega)

/-! Text. -/
/-- why tenants are not written -/
noncomputable def tpE (xs : List TV) : Int := if xs.all rgTB = true then (if 10 < xs.length ∨ 20000 < (tpF xs).length then 3 else 0) else 2
theorem tpF_take (xs : List TV) (k : Nat) (h : k < xs.length) : tpF (xs.take (k + 1)) = tpF (xs.take k) ++ trF (xs.getD k TV.zero) ++ [10] := by
  unfold tpF
  rw [List.take_succ_eq_append_getElem h, List.map_append, List.map_cons, List.map_nil, endF_snoc]
  simp [List.getD, h]
theorem all_snoc {xs : List TV} {k : Nat} (h : k < xs.length) (ha : (xs.take k).all rgTB = true) (hk : rgTB (xs.getD k TV.zero) = true) : (xs.take (k + 1)).all rgTB = true := by
  rw [List.take_succ_eq_append_getElem h, List.all_append, ha]
  have : xs[k] = xs.getD k TV.zero := by simp [List.getD, h]
  rw [this]
  simp only [List.all_cons, List.all_nil, Bool.and_true, Bool.true_and]
  exact hk
theorem RgT.short {T : TV} (h : RgT T) : Short 1000000 (twF T) ∧ (trF T).length ≤ 800 := by
  have hw := rn_wordF h.2.2.1
  have hl := (rn_words h.2.2.1).2.2.1
  have h40 : ∀ p ∈ twF T, p.length ≤ 40 := fun p hp => ((wordF_iff p).1 (hw p hp)).2.1
  refine ⟨fun k => ?_, ?_⟩
  · have h4 := bk_short 40 ((twF T).take k) (fun p hp => h40 p (List.mem_of_mem_take hp))
    have h5 : ((twF T).take k).length ≤ 18 := by rw [List.length_take]; omega
    omega
  · have h4 := bk_short 40 (twF T) h40
    unfold trF
    omega
theorem tens_rd {w : World} {F : Nat → Prop} {A : Option Addr} {n c : Nat} {xs : List TV} (h : RSl tenR w F A n c xs) (k : Nat) (hk : k < n) :
    ∃ (b off : Nat) (s1 s2 : SlT), A = some ⟨b, off, none⟩ ∧ F b ∧ b < w.heap.size ∧ RSl Rdr.str_ w F s1.A s1.n s1.c (xs.getD k TV.zero).devs ∧ RSl Rdr.str_ w F s2.A s2.n s2.c (xs.getD k TV.zero).ports ∧ w.rangeAt b (off + k * 4) (tenC (xs.getD k TV.zero) s1 s2) := by
  obtain ⟨b, off, e, hf, hb, hc⟩ := h.at_ (by omega)
  have hl : k < xs.length := by rw [h.len]; exact hk
  have e2 : xs.getD k TV.zero = xs[k] := by simp [List.getD, hl]
  obtain ⟨vs, ⟨s1, s2, rfl, h1, h2⟩, h3⟩ := hc k xs[k] (List.getElem?_eq_getElem hl)
  rw [e2]
  exact ⟨b, off, s1, s2, e, hf, hb, h1, h2, h3⟩
set_option maxRecDepth 20000 in
set_option maxHeartbeats 4000000 in
theorem rptext_any (A : Option Addr) (n c : Nat) (xs : List TV) (w : World) (h : RSl tenR w (allB w) A n c xs) (hn : n ≤ 40) (hs : ∀ T ∈ xs, TvSz T) :
    Calls Try.prog 12 #[.slice A n c] w fun e w' => e = .returned (.tuple #[.string (str (if tpE xs = 0 then tpF xs else [])), .int .i64 (tpE xs)]) ∧ Below w.heap.size w w' := by
  have hlen := h.len
  have hle := h.le
  have hcap := h.cap
  have H := Lib.hid h
  have HS := Lib.hid hs
  have HL := Lib.hid hlen
  have E2 := Lib.hid (show ∀ k, k < n → rgTB (xs.getD k TV.zero) = false → tpE xs = 2 ∧ (if tpE xs = 0 then tpF xs else []) = [] from fun k hk hr => by
    have e : tpE xs = 2 := by
      unfold tpE
      rw [if_neg]
      intro ha
      have hl : k < xs.length := by omega
      have := List.all_eq_true.1 ha xs[k] (List.getElem_mem hl)
      rw [show xs[k] = xs.getD k TV.zero by simp [List.getD, hl], hr] at this
      cases this
    exact ⟨e, by rw [if_neg (by rw [e]; decide)]⟩)
  have E3 := Lib.hid (show xs.all rgTB = true → (10 < n ∨ 20000 < (tpF xs).length) → tpE xs = 3 ∧ (if tpE xs = 0 then tpF xs else []) = [] from fun ha hb => by
    have e : tpE xs = 3 := by unfold tpE; rw [if_pos ha, if_pos (by rw [hlen]; exact hb)]
    exact ⟨e, by rw [if_neg (by rw [e]; decide)]⟩)
  have E0 := Lib.hid (show xs.all rgTB = true → ¬ (10 < n ∨ 20000 < (tpF xs).length) → tpE xs = 0 ∧ (if tpE xs = 0 then tpF xs else []) = tpF xs from fun ha hb => by
    have e : tpE xs = 0 := by unfold tpE; rw [if_pos ha, if_neg (by rw [hlen]; exact hb)]
    exact ⟨e, by rw [if_pos e]⟩)
  generalize (if tpE xs = 0 then tpF xs else []) = O at *
  generalize tpE xs = E at *
  clear h hs hlen
  go_enter Try.func12, Try.ntmps12
  go_wp2
  go_loopw [4, 5] (fun s i wr => ∃ k : Nat, i = .int .i64 k ∧ k ≤ n ∧ s = .string (str (tpF (xs.take k))) ∧ (tpF (xs.take k)).length ≤ 1000 * k ∧ (xs.take k).all rgTB = true ∧ Below w.heap.size w wr) (fun _ i _ => match i with | .int _ x => (n - x).toNat | _ => 0)
  case atStart => exact ⟨0, rfl, by omega, rfl, by simp [tpF, endF], rfl, Below.refl _ _⟩
  case round =>
    obtain ⟨k, rfl, hk, rfl, hsz, hall, hb⟩ := hrel
    have W := Lib.hid hb
    have AL := Lib.hid hall
    clear hb hall
    by_cases hlt : k < n
    · obtain ⟨b0, o0, s1, s2, rfl, _, hb0, l1, l2, r0⟩ := tens_rd H.out k hlt
      have hk2 : k < xs.length := by rw [HL.out]; exact hlt
      have hT := HS.out (xs.getD k TV.zero) (by simp [List.getD, hk2])
      have TK := Lib.hid (tpF_take xs k hk2)
      have AS := Lib.hid (fun hr => all_snoc hk2 AL.out hr)
      have E2k := Lib.hid (E2.out k hlt)
      generalize xs.getD k TV.zero = T at *
      have KP := Lib.hid (show ∀ wx, Below wr.heap.size wr wx → wx.cell? ⟨b0, o0 + k * 4, none⟩ = some (.int .i64 T.row) ∧ wx.cell? ⟨b0, o0 + k * 4 + 1, none⟩ = some (.string (str T.name)) ∧ wx.cell? ⟨b0, o0 + k * 4 + 2, none⟩ = some (.slice s1.A s1.n s1.c) ∧ wx.cell? ⟨b0, o0 + k * 4 + 3, none⟩ = some (.slice s2.A s2.n s2.c) from fun wx hx => by
        have r1 := rangeAt_keep r0 ((W.out.trans (hx.mono W.out.size)).block b0 hb0)
        exact ⟨r1 0 _ rfl, r1 1 _ rfl, r1 2 _ rfl, r1 3 _ rfl⟩)
      have RT := Lib.hid (fun (w' : World) (hb : Below w.heap.size w w') => rpright_any T s1 s2 w' _ (l1.below (fun _ h => h) hb) (l2.below (fun _ h => h) hb) (fun b h => Nat.lt_of_lt_of_le h hb.size) hT)
      have WD := Lib.hid (fun (w' : World) (hb : Below w.heap.size w w') => rpwords_any T s1 s2 w' (ssl_of (l1.below (fun _ h => h) hb)) (ssl_of (l2.below (fun _ h => h) hb)) (fun p hp => by have := hT.devs p hp; omega) (fun p hp => by have := hT.ports p hp; omega) (by have := hT.nd; omega))
      unfold GotTx tenV at WD
      unfold tenV at RT
      obtain ⟨c0, c1, c2, c3⟩ := KP.out wr (Below.refl _ _)
      have lt2 : (k : Int) < (n : Int) := by omega
      clear l1 l2 r0 hT hk2
      cases hr : rgTB T with
      | false =>
        rw [hr] at RT
        have EK := Lib.hid (E2k.out hr)
        clear hr
        go_wp2_with (go_at_call 14; (with_reducible refine (RT.out _ W.out).mono ?_); rintro e w2 ⟨rfl, b2⟩; have W2 := Lib.hid (trans_below W.out b2); clear b2)
        exact bodyPost_ret (v := .tuple #[.string (str []), .int .i64 2]) (by simp [results, Try.results12, go_sem, str]) rfl ⟨by rw [EK.out.1, EK.out.2], W2.out⟩
      | true =>
        rw [hr] at RT
        have RG := (rgTB_iff T).1 hr
        have AS2 := Lib.hid (AS.out hr)
        have hrl := RG.short.2
        have JS := Lib.hid RG.short.1
        have hj : joinF (twF T) = trF T := rfl
        have JJ := Lib.hid (fun A n c (w : World) (h : SSl w A n c (twF T)) => rjoin_any A n c (twF T) w h JS.out)
        rw [hj] at JJ
        clear hr RG hj
        generalize tpF (xs.take k) = q at *
        generalize trF T = r at *
        generalize twF T = ws at *
        have z1 : (str q).size + (str r).size ≤ 140737488355328 := by rw [str_size, str_size]; omega
        have z2 : (str q ++ str r).size + (⟨#[10]⟩ : ByteArray).size ≤ 140737488355328 := by rw [ByteArray.size_append, str_size, str_size]; simp [ByteArray.size]; omega
        go_wp2_with (first
          | (go_at_call 14; (with_reducible refine (RT.out _ W.out).mono ?_); rintro e w2 ⟨rfl, b2⟩; obtain ⟨d0, d1, d2, d3⟩ := KP.out w2 b2; have W2 := Lib.hid (trans_below W.out b2); clear b2)
          | (go_at_call 25; (with_reducible refine (WD.out _ W2.out).mono ?_); rintro e w3 ⟨A3, n3, c3, rfl, g3, b3⟩; have S3 := Lib.hid g3; have W3 := Lib.hid (trans_below W2.out b3); clear g3 b3)
          | (go_at_call 24; (with_reducible refine (JJ.out _ _ _ _ S3.out).mono ?_); rintro e w4 ⟨rfl, rfl⟩))
        go_roundw
        case rel =>
          refine ⟨k + 1, by simp, by omega, ?_, ?_, AS2.out, W3.out⟩
          · rw [TK.out, ← str_append, ← str_append]
          · rw [TK.out, List.length_append, List.length_append, List.length_singleton]; omega
        case measure => simp only []; omega
    · obtain rfl : k = n := by omega
      have e : xs.take k = xs := List.take_of_length_le (by rw [HL.out]; omega)
      rw [e] at AL hsz ⊢
      have hsz2 := str_size (tpF xs)
      by_cases hbig : 10 < k ∨ 20000 < (tpF xs).length
      · have EK := Lib.hid (E3.out AL.out hbig)
        generalize tpF xs = q at *
        by_cases h10 : 10 < k
        · have i0 : (10 : Int) < (k : Int) := by omega
          clear hbig
          go_wp2
          exact bodyPost_ret (v := .tuple #[.string (str []), .int .i64 3]) (by simp [results, Try.results12, go_sem, str]) rfl ⟨by rw [EK.out.1, EK.out.2], W.out⟩
        · have i0 : ¬ (10 : Int) < (k : Int) := by omega
          have i1 : (20000 : Int) < (q.length : Int) := by omega
          clear hbig
          go_wp2
          exact bodyPost_ret (v := .tuple #[.string (str []), .int .i64 3]) (by simp [results, Try.results12, go_sem, str]) rfl ⟨by rw [EK.out.1, EK.out.2], W.out⟩
      · have EK := Lib.hid (E0.out AL.out hbig)
        generalize tpF xs = q at *
        have i0 : ¬ (10 : Int) < (k : Int) := by omega
        have i1 : ¬ (20000 : Int) < (q.length : Int) := by omega
        clear hbig
        go_wp2
        exact bodyPost_ret (v := .tuple #[.string (str q), .int .i64 0]) (by simp [results, Try.results12, go_sem]) rfl ⟨by rw [EK.out.1, EK.out.2], W.out⟩
end Go.Proofs.Ytkfhjmoocnhekaa
