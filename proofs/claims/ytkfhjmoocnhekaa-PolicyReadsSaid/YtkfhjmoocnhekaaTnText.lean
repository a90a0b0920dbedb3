/- A tenant's words; may it be; the text of tenants. -/
import Derived.Test.YtkfhjmoocnhekaaTnSame
import Derived.Test.YtkfhjmoocnhekaaSeqP
namespace Go.Proofs.Ytkfhjmoocnhekaa
open Go.RowKit

/-- a device and a port -/
def dpF (d p : List UInt8) : List UInt8 := d ++ [46] ++ p
/-- a tenant's words, the first k ports of them -/
def twK (T : TV) (k : Nat) : List (List UInt8) := sTen :: T.name :: (List.zipWith dpF T.devs T.ports).take k
/-- a tenant's words -/
def twF (T : TV) : List (List UInt8) := sTen :: T.name :: List.zipWith dpF T.devs T.ports
theorem twK_all {T : TV} {k : Nat} (h : ¬ k < T.devs.length ∨ ¬ k < T.ports.length) : twK T k = twF T := by
  unfold twK twF
  rw [List.take_of_length_le (by rw [List.length_zipWith]; omega)]
theorem twK_next {T : TV} {k : Nat} (h : k < T.devs.length) (g : k < T.ports.length) : twK T (k + 1) = twK T k ++ [dpF (T.devs.getD k []) (T.ports.getD k [])] := by
  unfold twK
  have hz : k < (List.zipWith dpF T.devs T.ports).length := by rw [List.length_zipWith]; omega
  rw [List.take_succ_eq_append_getElem hz, List.getElem_zipWith]
  simp [List.getD, h, g]
theorem twK_len (T : TV) (k : Nat) : (twK T k).length ≤ k + 2 := by
  unfold twK
  simp only [List.length_cons, List.length_take]
  omega
/-- texts, as a call returns them -/
def GotTx (w : World) (ps : List (List UInt8)) (e : Ending) (w' : World) : Prop := ∃ A n c, e = .returned (.slice A n c) ∧ SSl w' A n c ps ∧ Below w.heap.size w w'
theorem own_two_txt (w : World) (B : Nat) (T : TypeId) (a b : List UInt8) (hB : B ≤ w.heap.size) : (w.alloc (.cells #[.string (str a), .string (str b)] T)).ownsRow B T 1 (.slice (some ⟨w.heap.size, 0, none⟩) 2 2) [a, b].length (txts [a, b]) :=
  ⟨rfl, .inr ⟨w.heap.size, 2, #[.string (str a), .string (str b)], rfl, hB, heap_alloc_new w _, Nat.le_refl _, by unfold maxLen; simp, rfl, rfl⟩⟩
/-- a cell ahead of B through an append onto a row of the call's own -/
theorem ph_cell {B : Nat} {U0 U2 : World} {o : Obj} {v : Value} {n : Nat} {T : TypeId} {xs : List Value} {p : Addr} {x : Value} (hown : U0.ownsRow B T 1 v n xs) (hp : p.block < B) (hB : B ≤ U0.heap.size) (gr : (U0.alloc o).grownBy U2 v.ownBlock) (h : U0.cell? p = some x) :
    (U0.alloc o).cell? p = some x ∧ U2.cell? p = some x := by
  have h1 : (U0.alloc o).cell? p = some x := (World.cell?_of_block (w := U0) (a := p) (heap_new _ (by omega))).trans h
  exact ⟨h1, (World.cell?_of_block (w := U0.alloc o) (a := p) (gr.block p.block (by rw [World.size_alloc]; omega) (fun e => by have := (hown.lt _ e.symm).1; omega))).trans h1⟩
set_option maxRecDepth 20000 in
set_option maxHeartbeats 4000000 in
theorem rpwords_any (T : TV) (s1 s2 : SlT) (w : World) (h1 : SSl w s1.A s1.n s1.c T.devs) (h2 : SSl w s2.A s2.n s2.c T.ports) (hs1 : ∀ p ∈ T.devs, p.length ≤ 1000000) (hs2 : ∀ p ∈ T.ports, p.length ≤ 1000000) (hln : T.devs.length ≤ 1000) :
    Calls Try.prog 25 #[tenV T s1 s2] w (GotTx w (twF T)) := by
  unfold tenV
  obtain ⟨A1, n1, c1⟩ := s1
  obtain ⟨A2, n2, c2⟩ := s2
  obtain ⟨rw_, nm, dv, pt⟩ := T
  simp only [] at h1 h2 hs1 hs2 hln ⊢
  have q1 := h1.le
  have q2 := h1.cap
  have q3 := h2.le
  have q4 := h2.cap
  have HD := Lib.hid h1
  have HP := Lib.hid h2
  have LD := Lib.hid h1.len
  have LP := Lib.hid h2.len
  have D1 := Lib.hid hs1
  have D2 := Lib.hid hs2
  have hln2 : n1 ≤ 1000 := by rw [← h1.len]; exact hln
  clear h1 h2 hs1 hs2 hln
  go_enter Try.func25, Try.ntmps25
  go_wp2
  have BS : Below w.heap.size w ((w.alloc (.cells #[.int .i64 rw_, .string (str nm), .slice A1 n1 c1, .slice A2 n2 c2] 40)).alloc (.cells #[.string (str sTen), .string (str nm)] 9)) := two_alloc w _ _
  have OW := own_two_txt (w.alloc (.cells #[.int .i64 rw_, .string (str nm), .slice A1 n1 c1, .slice A2 n2 c2] 40)) (w.heap.size + 1) 9 sTen nm (by simp)
  rw [show (w.alloc (.cells #[.int .i64 rw_, .string (str nm), .slice A1 n1 c1, .slice A2 n2 c2] 40)).heap.size = w.heap.size + 1 by simp] at OW
  have x2 : ((w.alloc (.cells #[.int .i64 rw_, .string (str nm), .slice A1 n1 c1, .slice A2 n2 c2] 40)).alloc (.cells #[.string (str sTen), .string (str nm)] 9)).cell? ⟨w.heap.size, 2, none⟩ = some (.slice A1 n1 c1) := by simp [go_sem]
  have x3 : ((w.alloc (.cells #[.int .i64 rw_, .string (str nm), .slice A1 n1 c1, .slice A2 n2 c2] 40)).alloc (.cells #[.string (str sTen), .string (str nm)] 9)).cell? ⟨w.heap.size, 3, none⟩ = some (.slice A2 n2 c2) := by simp [go_sem]
  have sz : w.heap.size + 1 ≤ ((w.alloc (.cells #[.int .i64 rw_, .string (str nm), .slice A1 n1 c1, .slice A2 n2 c2] 40)).alloc (.cells #[.string (str sTen), .string (str nm)] 9)).heap.size := by simp
  rw [show (⟨#[116, 101, 110, 97, 110, 116]⟩ : ByteArray) = str sTen from rfl]
  generalize (w.alloc (.cells #[.int .i64 rw_, .string (str nm), .slice A1 n1 c1, .slice A2 n2 c2] 40)).alloc (.cells #[.string (str sTen), .string (str nm)] 9) = wS at *
  have BS := Lib.hid BS
  have X2 := Lib.hid x2
  have X3 := Lib.hid x3
  clear x2 x3
  go_loopw [3, 4] (fun v i wr => ∃ k : Nat, i = .int .i64 k ∧ k ≤ n1 ∧ k ≤ n2 ∧ wr.ownsRow (w.heap.size + 1) 9 1 v (twK ⟨rw_, nm, dv, pt⟩ k).length (txts (twK ⟨rw_, nm, dv, pt⟩ k)) ∧ Below (w.heap.size + 1) wS wr ∧ w.heap.size + 1 ≤ wr.heap.size) (fun _ i _ => match i with | .int _ x => (n1 - x).toNat | _ => 0)
  case atStart => exact ⟨0, rfl, by omega, by omega, by simpa [twK] using OW, Below.refl _ _, sz⟩
  case round =>
    obtain ⟨k, rfl, hk, hk2, ho, hb, hz⟩ := hrel
    have TL := twK_len ⟨rw_, nm, dv, pt⟩ k
    obtain ⟨vA, vC, hv⟩ := tn_shape2 ho
    subst hv
    generalize hm : (twK ⟨rw_, nm, dv, pt⟩ k).length = m at *
    have HMM := Lib.hid hm
    have O := Lib.hid ho
    have B := Lib.hid hb
    have g2 : wr.cell? ⟨w.heap.size, 2, none⟩ = some (.slice A1 n1 c1) := (B.out.cell (p := ⟨w.heap.size, 2, none⟩) (Nat.lt_succ_self _)).trans X2.out
    have g3 : wr.cell? ⟨w.heap.size, 3, none⟩ = some (.slice A2 n2 c2) := (B.out.cell (p := ⟨w.heap.size, 3, none⟩) (Nat.lt_succ_self _)).trans X3.out
    have BW := Lib.hid (show Below w.heap.size w wr from BS.out.trans (B.out.mono (Nat.le_succ _)))
    clear ho hb hm
    by_cases hlt : k < n1
    · by_cases hlt2 : k < n2
      · have NX := Lib.hid (twK_next (T := ⟨rw_, nm, dv, pt⟩) (k := k) (by show k < dv.length; rw [LD.out]; exact hlt) (by show k < pt.length; rw [LP.out]; exact hlt2))
        obtain ⟨b0, o0, rfl, hb0, e0⟩ := HD.out.at_ (by omega)
        obtain ⟨b1, o1, rfl, hb1, e1⟩ := HP.out.at_ (by omega)
        have g4 := (BW.out.cell (p := ⟨b0, o0 + k, none⟩) hb0).trans (e0 k hlt)
        have g5 := (BW.out.cell (p := ⟨b1, o1 + k, none⟩) hb1).trans (e1 k hlt2)
        have l0 : (dv.getD k []).length ≤ 1000000 := D1.out _ (by have : k < dv.length := by rw [LD.out]; exact hlt
                                                                  simp [List.getD, List.getElem?_eq_getElem this])
        have l1 : (pt.getD k []).length ≤ 1000000 := D2.out _ (by have : k < pt.length := by rw [LP.out]; exact hlt2
                                                                  simp [List.getD, List.getElem?_eq_getElem this])
        have NX2 := Lib.hid (show twK ⟨rw_, nm, dv, pt⟩ (k + 1) = twK ⟨rw_, nm, dv, pt⟩ k ++ [dpF (dv.getD k []) (pt.getD k [])] from NX.out)
        generalize dv.getD k [] = x at *
        generalize pt.getD k [] = y at *
        have i0 : (k : Int) < (n1 : Int) := by omega
        have i1 : (k : Int) < (n2 : Int) := by omega
        have a1 : ∀ W, (Op.stringOp .add (str x) ⟨#[46]⟩).run Try.prog W = .ok (.string (str (x ++ [46]))) W := fun W => by
          rw [show (⟨#[46]⟩ : ByteArray) = str [46] from rfl, run_string_add_sum W _ _ (by rw [str_size, str_size]; simp; omega), str_append]
        have a2 : ∀ W, (Op.stringOp .add (str (x ++ [46])) (str y)).run Try.prog W = .ok (.string (str (dpF x y))) W := fun W => by
          rw [run_string_add_sum W _ _ (by rw [str_size, str_size]; simp; omega), str_append]; rfl
        have hlnA : (twK ⟨rw_, nm, dv, pt⟩ k).length ≤ 100000 := by rw [HMM.out]; omega
        obtain ⟨U0, hU⟩ : ∃ W0, wr.drew = W0 := ⟨_, rfl⟩
        have O0 : U0.ownsRow (w.heap.size + 1) 9 1 (.slice vA m vC) (twK ⟨rw_, nm, dv, pt⟩ k).length (txts (twK ⟨rw_, nm, dv, pt⟩ k)) := by rw [HMM.out]; exact hU ▸ (own_same (w' := wr.drew) O.out (fun _ _ => rfl))
        have B0 : Below (w.heap.size + 1) wS U0 := hU ▸ B.out.drew
        have z0 : w.heap.size + 1 ≤ U0.heap.size := hU ▸ hz
        have f2 : U0.cell? ⟨w.heap.size, 2, none⟩ = some (.slice (some ⟨b0, o0, none⟩) n1 c1) := hU ▸ (show wr.drew.cell? ⟨w.heap.size, 2, none⟩ = _ from g2)
        have f3 : U0.cell? ⟨w.heap.size, 3, none⟩ = some (.slice (some ⟨b1, o1, none⟩) n2 c2) := hU ▸ (show wr.drew.cell? ⟨w.heap.size, 3, none⟩ = _ from g3)
        have f4 : U0.cell? ⟨b0, o0 + k, none⟩ = some (.string (str x)) := hU ▸ (show wr.drew.cell? ⟨b0, o0 + k, none⟩ = _ from g4)
        have f5 : U0.cell? ⟨b1, o1 + k, none⟩ = some (.string (str y)) := hU ▸ (show wr.drew.cell? ⟨b1, o1 + k, none⟩ = _ from g5)
        have HU := Lib.hid hU
        clear hU
        obtain ⟨xv, U2, hr, own, gr, _⟩ := run_tapp (w := U0) (dpF x y) O0 hlnA z0
        obtain ⟨xA, xN, xC, hx⟩ := tn_shape own
        subst hx
        have p2 := ph_cell (p := ⟨w.heap.size, 2, none⟩) O0 (Nat.lt_succ_self _) z0 gr f2
        have p3 := ph_cell (p := ⟨w.heap.size, 3, none⟩) O0 (Nat.lt_succ_self _) z0 gr f3
        have p4 := ph_cell (p := ⟨b0, o0 + k, none⟩) O0 (show b0 < _ by omega) z0 gr f4
        have p5 := ph_cell (p := ⟨b1, o1 + k, none⟩) O0 (show b1 < _ by omega) z0 gr f5
        have B2 : Below (w.heap.size + 1) wS U2 := (B0.alloc z0 _).grown gr (by rw [World.size_alloc]; omega) (fun k hk => (O0.lt k hk).1)
        have z2 : w.heap.size + 1 ≤ U2.heap.size := by have := gr.size; rw [World.size_alloc] at this; omega
        obtain ⟨U1, hA⟩ : ∃ W1, U0.alloc (.cells #[.string (str (dpF x y))] 9) = W1 := ⟨_, rfl⟩
        rw [hA] at hr p2 p3 p4 p5
        have HA := Lib.hid hA
        have HR := Lib.hid hr
        have C2 := Lib.hid (fun m wx (hx : PhS U0 U1 U2 U2 m wx) => hx.all f2 p2.1 p2.2 p2.2)
        have C3 := Lib.hid (fun m wx (hx : PhS U0 U1 U2 U2 m wx) => hx.all f3 p3.1 p3.2 p3.2)
        have C4 := Lib.hid (fun m wx (hx : PhS U0 U1 U2 U2 m wx) => hx.all f4 p4.1 p4.2 p4.2)
        have C5 := Lib.hid (fun m wx (hx : PhS U0 U1 U2 U2 m wx) => hx.all f5 p5.1 p5.2 p5.2)
        have ON := Lib.hid own
        have BN := Lib.hid B2
        clear hr p2 p3 p4 p5 f2 f3 f4 f5 own gr B2 B0 O0 hA hlnA g4 g5 l0 l1 e0 e1
        go_wp2
        refine wp_region_phases (PhS U0 U1 U2 U2) [13, 14] (by kernel_rfl) (by kernel_rfl) (by kernel_rfl) (.inl ⟨rfl, HU.out⟩) ?_
        repeat
          first
            | (refine SeqP.run ?_ 2 (limJ_le _ _ _ _) rfl (by decide) (fun m hm wx hx => ?_) ?_
               rotate_left
               · have c2_ := C2.out _ wx hx
                 have c3_ := C3.out _ wx hx
                 have c4_ := C4.out _ wx hx
                 have c5_ := C5.out _ wx hx
                 go_simp
                 refine StepRun.val ?_; exact hx
               simp only [Act.put, List.setIfInBounds_toArray, List.set_cons_zero, List.set_cons_succ])
            | (refine SeqP.make (.slice (some ⟨U0.heap.size, 0, none⟩) 1 1) 0 rfl rfl (fun wx hx => ?_) ?_
               · obtain rfl := hx.p0
                 go_simp
                 exact ⟨rfl, .inr (.inl ⟨rfl, HA.out⟩)⟩
               simp only [Act.put, List.setIfInBounds_toArray, List.set_cons_zero, List.set_cons_succ])
            | (refine SeqP.make (.slice xA xN xC) 1 rfl rfl (fun wx hx => ?_) ?_
               · obtain rfl := hx.p1
                 rw [exec_tapp rfl rfl rfl rfl HR.out]
                 exact ⟨rfl, .inr (.inr (.inl ⟨rfl, rfl⟩))⟩
               simp only [Act.put, List.setIfInBounds_toArray, List.set_cons_zero, List.set_cons_succ])
        refine SeqP.last rfl (fun w9 h9 => ?_)
        obtain rfl := h9.p2
        go_wp2
        go_roundw
        case rel => exact ⟨k + 1, by simp, by omega, by omega, by rw [NX2.out, List.length_append]; exact ON.out, BN.out, z2⟩
        case measure => simp only []; omega
      · have i0 : (k : Int) < (n1 : Int) := by omega
        have i1 : ¬ (k : Int) < (n2 : Int) := by omega
        have E := Lib.hid (twK_all (T := ⟨rw_, nm, dv, pt⟩) (k := k) (.inr (by show ¬ k < pt.length; rw [LP.out]; exact hlt2)))
        go_wp2
        go_ret
        exact ⟨vA, m, vC, rfl, by rw [← E.out]; exact SSl.of_own O.out, BW.out⟩
    · have i0 : ¬ (k : Int) < (n1 : Int) := by omega
      have E := Lib.hid (twK_all (T := ⟨rw_, nm, dv, pt⟩) (k := k) (.inl (by show ¬ k < dv.length; rw [LD.out]; exact hlt)))
      go_wp2
      go_ret
      exact ⟨vA, m, vC, rfl, by rw [← E.out]; exact SSl.of_own O.out, BW.out⟩
end Go.Proofs.Ytkfhjmoocnhekaa
