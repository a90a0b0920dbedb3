/- XNoRefDev; XNpPut; XDoPut; XNtWorks -/
import Derived.Test.YtkpbbfehglihlaaGreatDoorDu23
import Derived.Test.YtkpbbfehglihlaaGreatDoorDu31
import Derived.Test.YtkpbbfehglihlaaGreatDoorDu25
import Derived.Test.YtkpbbfehglihlaaGreatDoorDu15
import Derived.Test.YtkpbbfehglihlaaGreatDoorDu33
import Derived.Test.YtkpbbfehglihlaaGreatDoorDu26
import Derived.Test.YtkpbbfehglihlaaGreatDoorDu17
import Derived.Test.YtkpbbfehglihlaaGreatDoorDu03
import Derived.Test.YtkpbbfehglihlaaGreatDoorDu11
import Derived.Test.YtkpbbfehglihlaaGreatDoorDu32
import Derived.Test.YtkpbbfehglihlaaGreatDoorDu22
import Derived.Test.YtkpbbfehglihlaaGreatDoorDu01
import Derived.Test.YtkpbbfehglihlaaGreatDoorDu27
import Derived.Test.YtkpbbfehglihlaaGreatDoorDu28
import Derived.Deep.CutBlock
import Derived.Deep.DeepCutAuto
import Derived.Lib.SliceRun
/- The contract of palingref16.Device: a net with a line's device. (Made by mk-norefdev.py.) -/
namespace Go.Proofs.YtkpbbfehglihlaaGreatDoor
open Go.RowKit

/-- a net beside a number, as a call returns it -/
def GotPut (N : NV) (E : Int) (w : World) (e : Ending) (w' : World) : Prop := ∃ U, e = .returned (.tuple #[netV U, .int .i64 E]) ∧ NRead w' (allB w') N U ∧ Below w.heap.size w w'
theorem NOwn.far {w w' : World} {B q : Nat} {F : Nat → Prop} {N : NV} {S : NSl3} (h : NOwn w B F N S) (hs : w.heap.size ≤ w'.heap.size) (hc : ∀ b, b ≠ q → w'.heap[b]? = w.heap[b]?) (hq : q < B) (hF : ¬ F q) : NOwn w' B F N S := by
  have key : ∀ {α : Type} {R : Rdr α} {T : TypeId} {s : Sl3} {xs : List α}, RI R w B F T s xs → RI R w' B F T s xs := fun g =>
    g.keep hs (fun b cur hB _ => hc b (by omega)) (fun b hb => hc b (fun e => by
      subst e
      rcases hb.2 with g | g
      · exact hF g
      · have := g.1; omega))
  exact ⟨key h.dv, key h.pt, key h.lk, key h.dm, key h.st, key h.fl, key h.vr, key h.ir⟩
end Go.Proofs.YtkpbbfehglihlaaGreatDoor

/- Package ports: put, Device, Port. (Made by mk-npput.py.) -/
namespace Go.Proofs.YtkpbbfehglihlaaGreatDoor
open Go.RowKit

/-! The two puts' figures, beside the document's. -/
def GotCo (N : NV) (w : World) (e : Ending) (w' : World) : Prop := ∃ S, e = .returned (netV S) ∧ NOwn w' w.heap.size (fun _ => False) N S ∧ Below w.heap.size w w'
theorem xncopy_co (N : NV) (S : NSl3) (w : World) (h : NRead w (allB w) N S) (hs : NvSz N) (hm : NmSz N) : Calls Tryz.prog 30 #[netV S] w (GotCo N w) := (xncopy_own N S w h hs hm).mono fun _ _ g => g.own
end Go.Proofs.YtkpbbfehglihlaaGreatDoor

/- Package domains: Static. (Made by mk-doput.py.) -/
namespace Go.Proofs.YtkpbbfehglihlaaGreatDoor
open Go.RowKit

theorem lvk4 {L : LV} (hk : L.kind = 4) (ht : L.dev.length ≤ 1000000 ∧ L.port.length ≤ 1000000) (hc : 0 ≤ L.mac ∧ L.mac < 18446744073709551616) : LvK L := by
  unfold LvK LvF
  rw [show pts L.kind true = [(0, 0), (4, 7), (7, 9), (0, 1)] by rw [hk]; rfl]
  intro f hf
  simp only [List.map_cons, List.map_nil, List.mem_cons, List.not_mem_nil, or_false] at hf
  rcases hf with rfl | rfl | rfl | rfl
  · exact ⟨ht.1, vo_m, vo_a, vo_l⟩
  · exact ⟨vo_t, vo_m, vo_a, vo_l⟩
  · exact ⟨vo_t, hc, vo_a, vo_l⟩
  · exact ⟨ht.2, vo_m, vo_a, vo_l⟩
theorem pre_tb4 {w w1 : World} {S : NSl3} {L : LV} {s1 s2 s3 s4 : SlV} (e : ((w.alloc (.cells (nA S) 31)).alloc (.cells (lA L s1 s2 s3 s4) 37)).alloc (.cells zA 31) = w1) : TBx w1 w.heap.size 31 (netC S) := by
  subst e
  exact ((TBx.new w (nA S) 31).below (alloc_below _ _)).below (alloc_below _ _)
/-- what holds within Static's region that makes the static entry -/
structure DI (S : NSl3) (L : LV) (s1 s2 s3 s4 : SlV) (D dm a : Int) (w W : World) (q : Nat) (x7 x27 x28 x29 x30 x31 x32 x33 x34 x35 x36 x37 x38 x39 x40 x41 : Value) (d : Nat → Bool) (w' : World) : Prop where
  h7 : d 15 = true → x7 = .pointer (some ⟨q, 0, none⟩)
  h27 : d 0 = true → x27 = .pointer (some ⟨w.heap.size + 1, 0, none⟩)
  h28 : d 1 = true → x28 = .int .i64 L.row
  h29 : d 2 = true → x29 = .agg #[.slice S.dv.A S.dv.n S.dv.c, .slice S.pt.A S.pt.n S.pt.c, .slice S.lk.A S.lk.n S.lk.c, .slice S.dm.A S.dm.n S.dm.c, .slice S.st.A S.st.n S.st.c, .slice S.fl.A S.fl.n S.fl.c, .slice S.vr.A S.vr.n S.vr.c, .slice S.ir.A S.ir.n S.ir.c]
  h30 : d 3 = true → x30 = .int .i64 D
  h31 : d 4 = true → x31 = .pointer (some ⟨w.heap.size + 1, 10, none⟩)
  h32 : d 5 = true → x32 = .int .i64 L.vlan
  h33 : d 6 = true → x33 = .int .i64 dm
  h34 : d 7 = true → x34 = .agg #[.slice S.dv.A S.dv.n S.dv.c, .slice S.pt.A S.pt.n S.pt.c, .slice S.lk.A S.lk.n S.lk.c, .slice S.dm.A S.dm.n S.dm.c, .slice S.st.A S.st.n S.st.c, .slice S.fl.A S.fl.n S.fl.c, .slice S.vr.A S.vr.n S.vr.c, .slice S.ir.A S.ir.n S.ir.c]
  h35 : d 8 = true → x35 = .int .i64 D
  h36 : d 9 = true → x36 = .pointer (some ⟨w.heap.size + 1, 3, none⟩)
  h37 : d 10 = true → x37 = .string (str L.port)
  h38 : d 11 = true → x38 = .int .i64 a
  h39 : d 12 = true → x39 = .pointer (some ⟨w.heap.size + 1, 7, none⟩)
  h40 : d 13 = true → x40 = .int .u64 L.mac
  h41 : d 14 = true → x41 = .agg #[.int .i64 L.row, .int .i64 dm, .int .i64 a, .int .u64 L.mac]
  k16 : d 16 = true → d 15 = true
  bx : d 15 = true → W.heap.size ≤ q ∧ TBx w' q 67 (if d 16 = true then [.int .i64 L.row, .int .i64 dm, .int .i64 a, .int .u64 L.mac] else [.int .i64 0, .int .i64 0, .int .i64 0, .int .u64 0])
  b : Below W.heap.size W w'
inductive DW (S : NSl3) (L : LV) (s1 s2 s3 s4 : SlV) (D dm a : Int) (w W : World) (d : Nat → Bool) : Act → World → Prop
  | mk (q : Nat) {x7 x27 x28 x29 x30 x31 x32 x33 x34 x35 x36 x37 x38 x39 x40 x41 : Value} {w' : World} : DI S L s1 s2 s3 s4 D dm a w W q x7 x27 x28 x29 x30 x31 x32 x33 x34 x35 x36 x37 x38 x39 x40 x41 d w' → DW S L s1 s2 s3 s4 D dm a w W d { tmps := #[.agg #[.slice S.dv.A S.dv.n S.dv.c, .slice S.pt.A S.pt.n S.pt.c, .slice S.lk.A S.lk.n S.lk.c, .slice S.dm.A S.dm.n S.dm.c, .slice S.st.A S.st.n S.st.c, .slice S.fl.A S.fl.n S.fl.c, .slice S.vr.A S.vr.n S.vr.c, .slice S.ir.A S.ir.n S.ir.c], .agg (lA L s1 s2 s3 s4), .pointer (some ⟨w.heap.size, 0, none⟩), .pointer (some ⟨w.heap.size + 1, 0, none⟩), .pointer (some ⟨w.heap.size + 1 + 1, 0, none⟩), .int .i64 0, .int .i64 D, x7, undef, .pointer (some ⟨w.heap.size + 1, 1, none⟩), .int .i64 L.kind, .bool false, .bool false, lineV L s1 s2 s3 s4, .bool true, .bool false, .bool false, .bool false, .agg #[.slice S.dv.A S.dv.n S.dv.c, .slice S.pt.A S.pt.n S.pt.c, .slice S.lk.A S.lk.n S.lk.c, .slice S.dm.A S.dm.n S.dm.c, .slice S.st.A S.st.n S.st.c, .slice S.fl.A S.fl.n S.fl.c, .slice S.vr.A S.vr.n S.vr.c, .slice S.ir.A S.ir.n S.ir.c], .bool true, .bool false, .bool false, undef, .agg #[.slice S.dv.A S.dv.n S.dv.c, .slice S.pt.A S.pt.n S.pt.c, .slice S.lk.A S.lk.n S.lk.c, .slice S.dm.A S.dm.n S.dm.c, .slice S.st.A S.st.n S.st.c, .slice S.fl.A S.fl.n S.fl.c, .slice S.vr.A S.vr.n S.vr.c, .slice S.ir.A S.ir.n S.ir.c], .pointer (some ⟨w.heap.size + 1, 2, none⟩), .string (str L.dev), .int .i64 D, x27, x28, x29, x30, x31, x32, x33, x34, x35, x36, x37, x38, x39, x40, x41, undef, undef, undef, undef, undef, undef, undef, undef, undef, undef, undef, undef, undef, undef, undef, undef], defers := [] } w'
theorem DI.grow {L : LV} {dm a : Int} {W : World} {q : Nat} {d : Nat → Bool} {w' w2 : World} (h : d 15 = true → W.heap.size ≤ q ∧ TBx w' q 67 (if d 16 = true then [.int .i64 L.row, .int .i64 dm, .int .i64 a, .int .u64 L.mac] else [.int .i64 0, .int .i64 0, .int .i64 0, .int .u64 0])) (hb : Below w'.heap.size w' w2) : d 15 = true → W.heap.size ≤ q ∧ TBx w2 q 67 (if d 16 = true then [.int .i64 L.row, .int .i64 dm, .int .i64 a, .int .u64 L.mac] else [.int .i64 0, .int .i64 0, .int .i64 0, .int .u64 0]) := fun g => ⟨(h g).1, (h g).2.below hb⟩
theorem res_cstat (tmps : Array Value) (W : World) (S : NSl3) (q : Nat) (E : Int) (h2 : tmps[4]?.getD undef = .pointer (some ⟨q, 0, none⟩)) (h5 : tmps[5]?.getD undef = .int .i64 E) (hb : TBx W q 31 (netC S)) :
    (results Tryz.f8 tmps).run Tryz.prog W = .ok (.tuple #[netV S, .int .i64 E]) W := by
  have t0 := hb.cell 0 _ rfl
  have t1 := hb.cell 1 _ rfl
  have t2 := hb.cell 2 _ rfl
  have t3 := hb.cell 3 _ rfl
  have t4 := hb.cell 4 _ rfl
  have t5 := hb.cell 5 _ rfl
  have t6 := hb.cell 6 _ rfl
  have t7 := hb.cell 7 _ rfl
  clear hb
  unfold netV
  simp [results, Tryz.results8, go_sem, h2, h5, t0, t1, t2, t3, t4, t5, t6, t7]
set_option maxRecDepth 40000 in
set_option maxHeartbeats 20000000 in
theorem cstatic_any (N : NV) (S : NSl3) (L : LV) (s1 s2 s3 s4 : SlV) (w : World) (h : NRead w (allB w) N S) (hl : LRead w L s1 s2 s3 s4) (hz : NvSz N) (hm : NmSz N) (ht : L.dev.length ≤ 1000000 ∧ L.port.length ≤ 1000000) (hc : 0 ≤ L.mac ∧ L.mac < 18446744073709551616) : Calls Tryz.prog 8 #[netV S, lineV L s1 s2 s3 s4] w (GotPut (doN N L) (doE N L) w) := by
  have UP := Lib.hid (fun (w' : World) (hb : Below w.heap.size w w') => h.up hb)
  have UL := Lib.hid (fun (w' : World) (hb : Below w.heap.size w w') => lread_below hl hb)
  have RT := fun (w' : World) (hb : Below w.heap.size w w') (e : L.kind = 4) => cright_k L s1 s2 s3 s4 w' (lread_below hl hb) (lvk4 e ht hc)
  have RN := fun (w' : World) (hb : Below w.heap.size w w') => xnright_any N S w' (h.up hb) hz
  have CP := fun (w' : World) (hb : Below w.heap.size w w') => xncopy_co N S w' (h.up hb) hz hm
  obtain ⟨b1, hb1⟩ : ∃ b, rgB L = b := ⟨_, rfl⟩
  obtain ⟨b2, hb2⟩ : ∃ b, netB N = b := ⟨_, rfl⟩
  have FI := Lib.hid (show fitsB N L 4 = (decide (L.kind = 4) && (b1 && b2)) by unfold fitsB; rw [hb1, hb2])
  rw [hb1] at RT
  rw [hb2] at RN
  unfold netV at RN CP
  unfold GotCo netV at CP
  replace RT := Lib.hid RT
  replace RN := Lib.hid RN
  replace CP := Lib.hid CP
  have HZ := Lib.hid hz
  have HT := Lib.hid ht
  have KLEN := Lib.hid h.st.len
  clear hb1 hb2 hz hm ht hc
  clear h hl
  unfold netV
  rw [line_agg]
  go_enter Tryz.func8, Tryz.ntmps8
  go_upto_region 1 with fail
  generalize hw1 : World.alloc _ _ = w1
  obtain ⟨B1, NB, LB, ql1, RB⟩ := pre_three (S := S) (L := L) (s1 := s1) (s2 := s2) (s3 := s3) (s4 := s4) hw1
  have TB := pre_tb4 (S := S) (L := L) (s1 := s1) (s2 := s2) (s3 := s3) (s4 := s4) hw1
  replace TB := Lib.hid TB
  clear hw1
  replace B1 := Lib.hid B1; replace NB := Lib.hid NB; replace LB := Lib.hid LB; replace RB := Lib.hid RB
  have KN := Lib.hid (show ∀ wx, Below w1.heap.size w1 wx → NF wx w.heap.size S ∧ (wx.cell? ⟨w.heap.size + 1, 0, none⟩ = some (.int .i64 L.row) ∧ wx.cell? ⟨w.heap.size + 1, 1, none⟩ = some (.int .i64 L.kind) ∧ wx.cell? ⟨w.heap.size + 1, 2, none⟩ = some (.string (str L.dev)) ∧ wx.cell? ⟨w.heap.size + 1, 3, none⟩ = some (.string (str L.port)) ∧ wx.cell? ⟨w.heap.size + 1, 7, none⟩ = some (.int .u64 L.mac) ∧ wx.cell? ⟨w.heap.size + 1, 10, none⟩ = some (.int .i64 L.vlan)) ∧ BoxF wx (w.heap.size + 1) 17 (lc L s1 s2 s3 s4) ∧ NRead wx (allB wx) N S ∧ LRead wx L s1 s2 s3 s4 ∧ Below w.heap.size w wx from fun wx hx => by
    have nb := NB.out.below hx
    have bx := LB.out.below (by omega) hx
    have b0 := B1.out.trans (hx.mono B1.out.size)
    exact ⟨⟨nb.c0, nb.c1, nb.c2, nb.c3, nb.c4, nb.c5, nb.c6, nb.c7⟩, ⟨bx.cell 0 (by omega), bx.cell 1 (by omega), bx.cell 2 (by omega), bx.cell 3 (by omega), bx.cell 7 (by omega), bx.cell 10 (by omega)⟩, bx, UP.out _ b0, UL.out _ b0, b0⟩)
  have BS := Lib.hid (Below.refl w1.heap.size w1)
  obtain ⟨⟨f0, f1, f2, f3, f4, f5, f6, f7⟩, ⟨g0, g1, g2, g3, g7, g10⟩, lb_, _⟩ := KN.out w1 (Below.refl _ _)
  by_cases hk : L.kind = 4
  rotate_left
  · have y0 : (L.kind != 4) = true := by simpa using hk
    have EV := Lib.hid (do_2 (N := N) (L := L) (by rw [FI.out, decide_eq_false hk]; rfl))
    have rb_ := RB.out.below BS.out; have rl_ := rb_.lt; obtain ⟨r0, z0, r1, z1, r2, z2, r3, z3, r4, z4, r5, z5, r6, z6, r7, z7⟩ := rb_.zero8
    clear hk rb_
    go_wp2
    refine bodyPost_ret (res_cstat _ (st8 w1 (w.heap.size + 2) NSl3.nil) NSl3.nil (w.heap.size + 2) 2 rfl rfl ((RB.out.below BS.out).st8 NSl3.nil)) rfl ?_
    rw [EV.out.1, EV.out.2]
    exact ⟨NSl3.nil, rfl, none_read _, Below.st8 (B1.out.trans (BS.out.mono B1.out.size)) (by omega) NSl3.nil⟩
  have y0 : (L.kind != 4) = false := by simpa using hk
  have HK := Lib.hid hk
  replace FI := Lib.hid (show fitsB N L 4 = (b1 && b2) by rw [FI.out, decide_eq_true hk]; rfl)
  clear hk
  cases b1
  · have EV := Lib.hid (do_2 (N := N) (L := L) (by rw [FI.out]; rfl))
    go_wp2_with (first
      | ((with_reducible refine wpList_lineOf ?hg (.tmp 3) ?ho (w.heap.size + 1) ?hx L s1 s2 s3 s4 lb_ ?_); (case hg => rfl); (case ho => rfl); (case hx => rfl))
      | (go_at_call 27; (with_reducible refine (RT.out _ B1.out HK.out).mono ?_); rintro e w2 ⟨rfl, b_⟩; have Y2 := Lib.hid b_; have rb_ := RB.out.below Y2.out; have rl_ := rb_.lt; obtain ⟨r0, z0, r1, z1, r2, z2, r3, z3, r4, z4, r5, z5, r6, z6, r7, z7⟩ := rb_.zero8; clear b_ rb_))
    refine bodyPost_ret (res_cstat _ (st8 w2 (w.heap.size + 2) NSl3.nil) NSl3.nil (w.heap.size + 2) 2 rfl rfl ((RB.out.below Y2.out).st8 NSl3.nil)) rfl ?_
    rw [EV.out.1, EV.out.2]
    exact ⟨NSl3.nil, rfl, none_read _, Below.st8 (B1.out.trans (Y2.out.mono B1.out.size)) (by omega) NSl3.nil⟩
  cases b2
  · have EV := Lib.hid (do_2 (N := N) (L := L) (by rw [FI.out]; rfl))
    go_wp2_with (first
      | ((with_reducible refine wpList_lineOf ?hg (.tmp 3) ?ho (w.heap.size + 1) ?hx L s1 s2 s3 s4 lb_ ?_); (case hg => rfl); (case ho => rfl); (case hx => rfl))
      | (go_at_call 27; (with_reducible refine (RT.out _ B1.out HK.out).mono ?_); rintro e w2 ⟨rfl, b_⟩; have Y2 := Lib.hid b_; have X2 := Lib.hid (trans_below B1.out b_); obtain ⟨⟨f0, f1, f2, f3, f4, f5, f6, f7⟩, ⟨g0, g1, g2, g3, g7, g10⟩, lb_, _⟩ := KN.out _ Y2.out; clear b_)
      | (go_at_call 23; (with_reducible refine (RN.out _ X2.out).mono ?_); rintro e w3 ⟨rfl, b_⟩; have Y3 := Lib.hid (trans_below Y2.out b_); have rb_ := RB.out.below Y3.out; have rl_ := rb_.lt; obtain ⟨r0, z0, r1, z1, r2, z2, r3, z3, r4, z4, r5, z5, r6, z6, r7, z7⟩ := rb_.zero8; clear b_ rb_))
    refine bodyPost_ret (res_cstat _ (st8 w3 (w.heap.size + 2) NSl3.nil) NSl3.nil (w.heap.size + 2) 2 rfl rfl ((RB.out.below Y3.out).st8 NSl3.nil)) rfl ?_
    rw [EV.out.1, EV.out.2]
    exact ⟨NSl3.nil, rfl, none_read _, Below.st8 (B1.out.trans (Y3.out.mono B1.out.size)) (by omega) NSl3.nil⟩
  have HV := Lib.hid (show fitsB N L 4 = true by rw [FI.out]; rfl)
  have hn := (fits_iff.1 HV.out).2.2
  have DV := fun (w' : World) (hb : Below w.heap.size w w') => xndevice_any N S L.dev w' (UP.out w' hb) HZ.out hn (by have := HT.out.1; omega)
  have FA := fun (w' : World) (hb : Below w.heap.size w w') => xndomain_any N S (dvF N L.dev) L.vlan w' (UP.out w' hb) HZ.out hn
  have FB := fun (w' : World) (hb : Below w.heap.size w w') => xnport_any N S (dvF N L.dev) L.port w' (UP.out w' hb) HZ.out hn (by have := HT.out.2; omega)
  have PA := nd_place (N := N) (dev := dvF N L.dev) (s := L.port)
  have AP := at_place N (dvF N L.dev) L.vlan
  have CR := fun (w' : World) (hb : Below w.heap.size w w') => crefusal18_any N S L.row (atF N (dvF N L.dev) L.vlan) (ptF N (dvF N L.dev) L.port) L.mac L.vlan w' (UP.out w' hb) HZ.out hn (PA.imp id (fun ⟨x, h1, h2, _⟩ => ⟨x, h1, h2⟩)) (AP.imp id (fun ⟨y, h1, h2, _, h4⟩ => ⟨y, h1, h2, h4⟩))
  have LE := Lib.hid (fun (e : Int) => do_e (N := N) (L := L) HV.out (e := e))
  have L0 := Lib.hid (do_0 (N := N) (L := L) HV.out)
  have RI_ := Lib.hid (fun (e : doR N (atF N (dvF N L.dev) L.vlan) (ndF N L.dev L.port) L.vlan L.mac = 0) => do_inv ((do_r HV.out).trans e))
  have LS := Lib.hid hn.zst
  rw [show ptF N (dvF N L.dev) L.port = ndF N L.dev L.port from rfl] at FB CR PA
  clear hn PA AP
  obtain ⟨E, hE⟩ : ∃ E, doR N (atF N (dvF N L.dev) L.vlan) (ndF N L.dev L.port) L.vlan L.mac = E := ⟨_, rfl⟩
  rw [hE] at CR
  have EE := Lib.hid hE
  clear hE
  generalize ndF N L.dev L.port = a at *
  generalize atF N (dvF N L.dev) L.vlan = dm at *
  generalize dvF N L.dev = D at *
  unfold netV at DV FA FB CR
  replace DV := Lib.hid DV
  replace FA := Lib.hid FA
  replace FB := Lib.hid FB
  replace CR := Lib.hid CR
  go_upto_region 4 with (first
    | ((with_reducible refine wpList_lineOf ?hg (.tmp 3) ?ho (w.heap.size + 1) ?hx L s1 s2 s3 s4 lb_ ?_); (case hg => rfl); (case ho => rfl); (case hx => rfl))
    | (go_at_call 27; (with_reducible refine (RT.out _ B1.out HK.out).mono ?_); rintro e w2 ⟨rfl, b_⟩; have Y2 := Lib.hid b_; have X2 := Lib.hid (trans_below B1.out b_); obtain ⟨⟨f0, f1, f2, f3, f4, f5, f6, f7⟩, ⟨g0, g1, g2, g3, g7, g10⟩, lb_, _⟩ := KN.out _ Y2.out; clear b_)
    | (go_at_call 23; (with_reducible refine (RN.out _ X2.out).mono ?_); rintro e w3 ⟨rfl, b_⟩; have Y3 := Lib.hid (trans_below Y2.out b_); have X3 := Lib.hid (trans_below X2.out b_); obtain ⟨⟨f0, f1, f2, f3, f4, f5, f6, f7⟩, ⟨g0, g1, g2, g3, g7, g10⟩, lb_, _⟩ := KN.out _ Y3.out; clear b_)
    | (go_at_call 21; (with_reducible refine (DV.out _ X3.out).mono ?_); rintro e w4 ⟨rfl, b_⟩; have Y4 := Lib.hid (trans_below Y3.out b_); have X4 := Lib.hid (trans_below X3.out b_); obtain ⟨⟨f0, f1, f2, f3, f4, f5, f6, f7⟩, ⟨g0, g1, g2, g3, g7, g10⟩, lb_, _⟩ := KN.out _ Y4.out; clear b_))
  have KR := Lib.hid (show ∀ wx, Below w4.heap.size w4 wx → (wx.cell? ⟨w.heap.size, 0, none⟩ = some (.slice S.dv.A S.dv.n S.dv.c) ∧ wx.cell? ⟨w.heap.size, 1, none⟩ = some (.slice S.pt.A S.pt.n S.pt.c) ∧ wx.cell? ⟨w.heap.size, 2, none⟩ = some (.slice S.lk.A S.lk.n S.lk.c) ∧ wx.cell? ⟨w.heap.size, 3, none⟩ = some (.slice S.dm.A S.dm.n S.dm.c) ∧ wx.cell? ⟨w.heap.size, 4, none⟩ = some (.slice S.st.A S.st.n S.st.c) ∧ wx.cell? ⟨w.heap.size, 5, none⟩ = some (.slice S.fl.A S.fl.n S.fl.c) ∧ wx.cell? ⟨w.heap.size, 6, none⟩ = some (.slice S.vr.A S.vr.n S.vr.c) ∧ wx.cell? ⟨w.heap.size, 7, none⟩ = some (.slice S.ir.A S.ir.n S.ir.c)) ∧ (wx.cell? ⟨w.heap.size + 1, 0, none⟩ = some (.int .i64 L.row) ∧ wx.cell? ⟨w.heap.size + 1, 3, none⟩ = some (.string (str L.port)) ∧ wx.cell? ⟨w.heap.size + 1, 7, none⟩ = some (.int .u64 L.mac) ∧ wx.cell? ⟨w.heap.size + 1, 10, none⟩ = some (.int .i64 L.vlan)) from fun wx hx => by
    obtain ⟨⟨f0, f1, f2, f3, f4, f5, f6, f7⟩, ⟨g0, g1, g2, g3, g7, g10⟩, _⟩ := KN.out wx (trans_below Y4.out hx)
    exact ⟨⟨f0, f1, f2, f3, f4, f5, f6, f7⟩, ⟨g0, g3, g7, g10⟩⟩)
  clear f0 f1 f2 f3 f4 f5 f6 f7 g0 g1 g2 g3 g7 g10 lb_
  refine wp_region_inv (DW S L s1 s2 s3 s4 D dm a w w4) (by kernel_rfl) (by kernel_rfl) ?_ ?_ ?_
  · refine DW.mk 0 ?_
    constructor
    case b => exact (Below.refl _ _).drew
    all_goals exact fun h => by cases h
  · rintro d av w' j o @⟨q, x7, x27, x28, x29, x30, x31, x32, x33, x34, x35, x36, x37, x38, x39, x40, x41, _, hv⟩ ho hd hdep
    obtain ⟨h7, h27, h28, h29, h30, h31, h32, h33, h34, h35, h36, h37, h38, h39, h40, h41, k16, bx, b⟩ := hv
    rcases j with _ | _ | _ | _ | _ | _ | _ | _ | _ | _ | _ | _ | _ | _ | _ | _ | _ | j
    · cases ho
      refine .inl ⟨rfl, ?_⟩
      go_simp
      refine DW.mk q ?_
      constructor
      all_goals first | assumption | exact fun _ => rfl | exact fun _ => trivial
    · cases ho
      have e0_ := hdep 0 (by kernel_rfl)
      obtain rfl := h27 e0_
      obtain ⟨⟨f0, f1, f2, f3, f4, f5, f6, f7⟩, ⟨g0, g3, g7, g10⟩⟩ := KR.out w' b
      refine .inl ⟨rfl, ?_⟩
      go_simp
      refine DW.mk q ?_
      constructor
      all_goals first | assumption | exact fun _ => rfl | exact fun _ => trivial
    · cases ho
      obtain ⟨⟨f0, f1, f2, f3, f4, f5, f6, f7⟩, ⟨g0, g3, g7, g10⟩⟩ := KR.out w' b
      refine .inl ⟨rfl, ?_⟩
      go_simp
      refine DW.mk q ?_
      constructor
      all_goals first | assumption | exact fun _ => rfl | exact fun _ => trivial
    · cases ho
      refine .inl ⟨rfl, ?_⟩
      go_simp
      refine DW.mk q ?_
      constructor
      all_goals first | assumption | exact fun _ => rfl | exact fun _ => trivial
    · cases ho
      refine .inl ⟨rfl, ?_⟩
      go_simp
      refine DW.mk q ?_
      constructor
      all_goals first | assumption | exact fun _ => rfl | exact fun _ => trivial
    · cases ho
      have e4_ := hdep 4 (by kernel_rfl)
      obtain rfl := h31 e4_
      obtain ⟨⟨f0, f1, f2, f3, f4, f5, f6, f7⟩, ⟨g0, g3, g7, g10⟩⟩ := KR.out w' b
      refine .inl ⟨rfl, ?_⟩
      go_simp
      refine DW.mk q ?_
      constructor
      all_goals first | assumption | exact fun _ => rfl | exact fun _ => trivial
    · cases ho
      have e2_ := hdep 2 (by kernel_rfl)
      obtain rfl := h29 e2_
      have e3_ := hdep 3 (by kernel_rfl)
      obtain rfl := h30 e3_
      have e5_ := hdep 5 (by kernel_rfl)
      obtain rfl := h32 e5_
      refine .inl ⟨rfl, ?_⟩
      go_simp
      refine (FA.out _ (trans_below X4.out b)).mono ?_
      rintro e w2 ⟨rfl, hb⟩
      refine ⟨_, rfl, ?_⟩
      refine DW.mk q ?_
      constructor
      case bx => exact DI.grow bx hb
      case b => exact trans_below b hb
      all_goals first | assumption | exact fun _ => rfl | exact fun _ => trivial
    · cases ho
      obtain ⟨⟨f0, f1, f2, f3, f4, f5, f6, f7⟩, ⟨g0, g3, g7, g10⟩⟩ := KR.out w' b
      refine .inl ⟨rfl, ?_⟩
      go_simp
      refine DW.mk q ?_
      constructor
      all_goals first | assumption | exact fun _ => rfl | exact fun _ => trivial
    · cases ho
      refine .inl ⟨rfl, ?_⟩
      go_simp
      refine DW.mk q ?_
      constructor
      all_goals first | assumption | exact fun _ => rfl | exact fun _ => trivial
    · cases ho
      refine .inl ⟨rfl, ?_⟩
      go_simp
      refine DW.mk q ?_
      constructor
      all_goals first | assumption | exact fun _ => rfl | exact fun _ => trivial
    · cases ho
      have e9_ := hdep 9 (by kernel_rfl)
      obtain rfl := h36 e9_
      obtain ⟨⟨f0, f1, f2, f3, f4, f5, f6, f7⟩, ⟨g0, g3, g7, g10⟩⟩ := KR.out w' b
      refine .inl ⟨rfl, ?_⟩
      go_simp
      refine DW.mk q ?_
      constructor
      all_goals first | assumption | exact fun _ => rfl | exact fun _ => trivial
    · cases ho
      have e7_ := hdep 7 (by kernel_rfl)
      obtain rfl := h34 e7_
      have e8_ := hdep 8 (by kernel_rfl)
      obtain rfl := h35 e8_
      have e10_ := hdep 10 (by kernel_rfl)
      obtain rfl := h37 e10_
      refine .inl ⟨rfl, ?_⟩
      go_simp
      refine (FB.out _ (trans_below X4.out b)).mono ?_
      rintro e w2 ⟨rfl, hb⟩
      refine ⟨_, rfl, ?_⟩
      refine DW.mk q ?_
      constructor
      case bx => exact DI.grow bx hb
      case b => exact trans_below b hb
      all_goals first | assumption | exact fun _ => rfl | exact fun _ => trivial
    · cases ho
      refine .inl ⟨rfl, ?_⟩
      go_simp
      refine DW.mk q ?_
      constructor
      all_goals first | assumption | exact fun _ => rfl | exact fun _ => trivial
    · cases ho
      have e12_ := hdep 12 (by kernel_rfl)
      obtain rfl := h39 e12_
      obtain ⟨⟨f0, f1, f2, f3, f4, f5, f6, f7⟩, ⟨g0, g3, g7, g10⟩⟩ := KR.out w' b
      refine .inl ⟨rfl, ?_⟩
      go_simp
      refine DW.mk q ?_
      constructor
      all_goals first | assumption | exact fun _ => rfl | exact fun _ => trivial
    · cases ho
      have e1_ := hdep 1 (by kernel_rfl)
      obtain rfl := h28 e1_
      have e6_ := hdep 6 (by kernel_rfl)
      obtain rfl := h33 e6_
      have e11_ := hdep 11 (by kernel_rfl)
      obtain rfl := h38 e11_
      have e13_ := hdep 13 (by kernel_rfl)
      obtain rfl := h40 e13_
      refine .inl ⟨rfl, ?_⟩
      go_simp
      refine DW.mk q ?_
      constructor
      all_goals first | assumption | exact fun _ => rfl | exact fun _ => trivial
    · cases ho
      refine .inl ⟨rfl, ?_⟩
      go_simp
      refine DW.mk w'.heap.size ?_
      constructor
      case k16 => exact fun _ => by simp
      case bx => exact fun _ => ⟨b.size, by
        have e16 : d 16 = false := by
          cases hx : d 16 with
          | false => rfl
          | true => have := k16 hx; rw [hd] at this; cases this
        have t := TBx.new w' #[.int .i64 0, .int .i64 0, .int .i64 0, .int .u64 0] 67
        simpa [e16] using t⟩
      case b => exact b.alloc b.size _
      all_goals first | assumption | exact fun _ => rfl | exact fun _ => trivial
    · cases ho
      have e15_ := hdep 15 (by kernel_rfl)
      obtain rfl := h7 e15_
      have e14_ := hdep 14 (by kernel_rfl)
      obtain rfl := h41 e14_
      have B0 := bx e15_
      rw [hd] at B0
      simp only [Bool.false_eq_true, if_false] at B0
      have B := B0.2
      have n0_ := B.cell 0 _ rfl; have n1_ := B.cell 1 _ rfl; have n2_ := B.cell 2 _ rfl; have n3_ := B.cell 3 _ rfl
      have m0_ := B.live 0; have m1_ := B.live 1; have m2_ := B.live 2; have m3_ := B.live 3
      have n4_ := B.lt
      refine .inl ⟨rfl, ?_⟩
      go_simp
      refine DW.mk q ?_
      constructor
      case k16 => exact fun _ => by simpa using e15_
      case bx => exact fun _ => ⟨B0.1, by simpa using (((B.set 0 _).set 1 _).set 2 _).set 3 _⟩
      case b => exact (((b.setCell (p := ⟨q, 0, none⟩) B0.1 _).setCell (p := ⟨q, 1, none⟩) B0.1 _).setCell (p := ⟨q, 2, none⟩) B0.1 _).setCell (p := ⟨q, 3, none⟩) B0.1 _
      all_goals first | assumption | exact fun _ => rfl | exact fun _ => trivial
    · simp at ho
  · rintro d av w5 @⟨q, x7, x27, x28, x29, x30, x31, x32, x33, x34, x35, x36, x37, x38, x39, x40, x41, _, hv⟩ hall
    obtain ⟨h7, h27, h28, h29, h30, h31, h32, h33, h34, h35, h36, h37, h38, h39, h40, h41, k16, bx, b⟩ := hv
    obtain rfl := h7 (hall 15 (by decide))
    have hbx := bx (hall 15 (by decide))
    rw [hall 16 (by decide)] at hbx
    simp only [if_true] at hbx
    have SD := Lib.hid hbx.2
    have B7 := Lib.hid hbx.1
    have Y5 := Lib.hid (trans_below Y4.out b)
    have X5 := Lib.hid (trans_below X4.out b)
    clear h7 h27 h28 h29 h30 h31 h32 h33 h34 h35 h36 h37 h38 h39 h40 h41 k16 bx b hall hbx FA FB KR
    obtain ⟨⟨f0, f1, f2, f3, f4, f5, f6, f7⟩, _⟩ := KN.out _ Y5.out
    have ql5 : w.heap.size + 2 < w5.heap.size := (RB.out.below Y5.out).lt
    have t0 := SD.out.cell 0 _ rfl
    have t1 := SD.out.cell 1 _ rfl
    have t2 := SD.out.cell 2 _ rfl
    have t3 := SD.out.cell 3 _ rfl
    have tl := SD.out.lt
    go_upto_region 6 with (go_at_call 29; (with_reducible refine (CR.out _ X5.out).mono ?_); rintro e w6 ⟨rfl, b_⟩; have Y6 := Lib.hid (trans_below Y5.out b_); have X6 := Lib.hid (trans_below X5.out b_); have SD6 := Lib.hid (SD.out.below b_); clear b_)
    clear f0 f1 f2 f3 f4 f5 f6 f7 t0 t1 t2 t3 tl ql5
    by_cases e0 : E = 0
    rotate_left
    · have y1 : (E != 0) = true := by simpa using e0
      have EV := Lib.hid (LE.out E EE.out e0)
      have rb_ := RB.out.below Y6.out; have rl_ := rb_.lt; obtain ⟨r0, z0, r1, z1, r2, z2, r3, z3, r4, z4, r5, z5, r6, z6, r7, z7⟩ := rb_.zero8
      clear e0 rb_
      go_wp2
      refine bodyPost_ret (res_cstat _ (st8 w6 (w.heap.size + 2) NSl3.nil) NSl3.nil (w.heap.size + 2) E rfl rfl ((RB.out.below Y6.out).st8 NSl3.nil)) rfl ?_
      rw [EV.out.1, EV.out.2]
      exact ⟨NSl3.nil, rfl, none_read _, Below.st8 (B1.out.trans (Y6.out.mono B1.out.size)) (by omega) NSl3.nil⟩
    subst e0
    have EV := Lib.hid (L0.out EE.out)
    obtain ⟨y, x, ed, ea, hy, hx, k64⟩ : ∃ y x : Nat, dm = (y : Int) ∧ a = (x : Int) ∧ y < N.domains.length ∧ x < N.ports.length ∧ N.statics.length < 64 := by
      obtain ⟨_, _, y, x, ed, ea, hy, hx, _, _, _, _, _, k64, _⟩ := RI_.out EE.out
      exact ⟨y, x, ed, ea, hy, hx, k64⟩
    subst ea
    subst ed
    have KS := Lib.hid (show N.statics.length ≤ 63 by omega)
    clear hy hx k64 LE L0 RI_ EE CR
    have LW := Lib.hid (show w.heap.size + 2 < w4.heap.size from (RB.out.below Y4.out).lt)
    have tb_ := TB.out.below Y6.out
    have f0 := tb_.cell 0 (.slice S.dv.A S.dv.n S.dv.c) rfl
    have z0 := tb_.live 0
    have f1 := tb_.cell 1 (.slice S.pt.A S.pt.n S.pt.c) rfl
    have z1 := tb_.live 1
    have f2 := tb_.cell 2 (.slice S.lk.A S.lk.n S.lk.c) rfl
    have z2 := tb_.live 2
    have f3 := tb_.cell 3 (.slice S.dm.A S.dm.n S.dm.c) rfl
    have z3 := tb_.live 3
    have f4 := tb_.cell 4 (.slice S.st.A S.st.n S.st.c) rfl
    have z4 := tb_.live 4
    have f5 := tb_.cell 5 (.slice S.fl.A S.fl.n S.fl.c) rfl
    have z5 := tb_.live 5
    have f6 := tb_.cell 6 (.slice S.vr.A S.vr.n S.vr.c) rfl
    have z6 := tb_.live 6
    have f7 := tb_.cell 7 (.slice S.ir.A S.ir.n S.ir.c) rfl
    have z7 := tb_.live 7
    have tl_ := tb_.lt
    clear tb_
    go_upto_region 9 with (go_at_call 30; (with_reducible refine (CP.out _ X6.out).mono ?_); rintro e w7 ⟨U, rfl, hown, b_⟩; have OW := Lib.hid hown; have Y7 := Lib.hid (trans_below Y6.out b_); have X7 := Lib.hid (trans_below X6.out b_); have SD7 := Lib.hid (SD6.out.below b_); have B67 := Lib.hid b_.size; have tb_ := TB.out.below Y7.out; have f0 := tb_.cell 0 (.slice S.dv.A S.dv.n S.dv.c) rfl; have z0 := tb_.live 0; have f1 := tb_.cell 1 (.slice S.pt.A S.pt.n S.pt.c) rfl; have z1 := tb_.live 1; have f2 := tb_.cell 2 (.slice S.lk.A S.lk.n S.lk.c) rfl; have z2 := tb_.live 2; have f3 := tb_.cell 3 (.slice S.dm.A S.dm.n S.dm.c) rfl; have z3 := tb_.live 3; have f4 := tb_.cell 4 (.slice S.st.A S.st.n S.st.c) rfl; have z4 := tb_.live 4; have f5 := tb_.cell 5 (.slice S.fl.A S.fl.n S.fl.c) rfl; have z5 := tb_.live 5; have f6 := tb_.cell 6 (.slice S.vr.A S.vr.n S.vr.c) rfl; have z6 := tb_.live 6; have f7 := tb_.cell 7 (.slice S.ir.A S.ir.n S.ir.c) rfl; have z7 := tb_.live 7; have tl_ := tb_.lt; clear tb_; clear hown b_)
    clear f0 f1 f2 f3 f4 f5 f6 f7 z0 z1 z2 z3 z4 z5 z6 z7 tl_
    generalize hw8 : World.setCell _ _ _ = w8
    have hw8 : st8 w7 w.heap.size U = w8 := hw8
    have far : ∀ k, k ≠ w.heap.size → w8.heap[k]? = w7.heap[k]? := fun k hk => by rw [← hw8]; exact st8_other _ _ _ hk
    have hs8 : w8.heap.size = w7.heap.size := by rw [← hw8]; exact st8_size _ _ _
    have l1 := LW.out
    have l2 := B7.out
    have l3 := SD6.out.lt
    have O8 := Lib.hid (show NOwn w8 w6.heap.size (fun _ => False) N U from OW.out.far (q := w.heap.size) (by rw [hs8]; exact Nat.le_refl _) far (by omega) (fun f => f.elim))
    have T8 := Lib.hid (show TBx w8 w.heap.size 31 (netC U) by rw [← hw8]; exact (TB.out.below Y7.out).st8 U)
    have R8 := Lib.hid (show TBx w8 (w.heap.size + 2) 31 (netC NSl3.nil) from (RB.out.below Y7.out).same (far _ (by omega)))
    have D8 := Lib.hid (show TBx w8 q 67 [.int .i64 L.row, .int .i64 (y : Int), .int .i64 (x : Int), .int .u64 L.mac] from SD7.out.same (far _ (by omega)))
    have X8 := Lib.hid (show Below w.heap.size w w8 by rw [← hw8]; exact Below.st8 X7.out (Nat.le_refl _) U)
    have S68 := Lib.hid (show w6.heap.size ≤ w8.heap.size by rw [hs8]; exact B67.out)
    have Q6 := Lib.hid (show w.heap.size + 2 < w6.heap.size by omega)
    clear hw8 far hs8 l1 l2 l3 OW SD7 SD6 Y7 X7 B67 LW
    have t0 := D8.out.cell 0 _ rfl
    have t1 := D8.out.cell 1 _ rfl
    have t2 := D8.out.cell 2 _ rfl
    have t3 := D8.out.cell 3 _ rfl
    have tl := D8.out.lt
    have tb := T8.out.lt
    have u4 := T8.out.cell 4 (.slice U.st.A U.st.n U.st.c) rfl
    go_upto_region 10 with (at_builtin; (refine wpList_ri1 statR rfl (.tmp 52) (.tmp 54) 26 Tryz.underlying26 (Desc.of (by kernel_rfl)) (by decide) rfl U.st (O8.out.st.up (alloc_below w8 (.cells (statC ⟨L.row, (y : Int), (x : Int), L.mac⟩).toArray 67))) iso_stat ?hF w8.heap.size (statC ⟨L.row, (y : Int), (x : Int), L.mac⟩) ⟨L.row, (y : Int), (x : Int), L.mac⟩ ?hu ?hy ?hn ?hB rfl rfl ?_); (case hF => exact fun b hb => hb.elim); (case hu => exact (TBx.new w8 (statC ⟨L.row, (y : Int), (x : Int), L.mac⟩).toArray 67).range); (case hy => rfl); (case hn => have := KS.out; omega); (case hB => have := S68.out; simp; omega); intro u' w10 hr hc hb; have R10 := Lib.hid hr; have C10 := Lib.hid ((ChgT.of_below (B := w6.heap.size) (T := 67) (alloc_below w8 (.cells (statC ⟨L.row, (y : Int), (x : Int), L.mac⟩).toArray 67))).trans hc); have B10 := Lib.hid (show Below w6.heap.size w8 w10 from ((Below.refl _ _).alloc S68.out (.cells (statC ⟨L.row, (y : Int), (x : Int), L.mac⟩).toArray 67)).trans hb); have T10 := Lib.hid (T8.out.chg C10.out (by decide)); have v4 := T10.out.cell 4 (.slice U.st.A U.st.n U.st.c) rfl; have y4_ := T10.out.live 4; clear hr hc hb)
    generalize hw11 : World.setCell _ _ _ = w11
    have hw11 : w10.setCell ⟨w.heap.size, 4, none⟩ (.slice u'.A u'.n u'.c) = w11 := hw11
    obtain ⟨U', hU'⟩ : ∃ U' : NSl3, ({ U with st := u' } : NSl3) = U' := ⟨_, rfl⟩
    have hs11 : w11.heap.size = w10.heap.size := by rw [← hw11]; simp
    have far : ∀ b, b ≠ w.heap.size → w11.heap[b]? = w10.heap[b]? := fun b hn => by rw [← hw11]; exact Below.heap_setCell _ _ _ _ hn
    have O11 := Lib.hid (show NOwn w11 w6.heap.size (fun _ => False) (withStat N L.row y x L.mac) U' by rw [← hU']; exact (O8.out.setSt C10.out (fun b hb => hb.elim) R10.out).far (q := w.heap.size) (by rw [hs11]; exact Nat.le_refl _) far (by have := Q6.out; omega) (fun f => f.elim))
    have T11 := Lib.hid (show TBx w11 w.heap.size 31 (netC U') by rw [← hw11, ← hU']; exact T10.out.set 4 _)
    have R11 := Lib.hid (show TBx w11 (w.heap.size + 2) 31 (netC NSl3.nil) from (R8.out.chg C10.out (by decide)).same (far _ (by omega)))
    have X11 := Lib.hid (show Below w.heap.size w w11 by rw [← hw11]; exact (X8.out.trans (B10.out.mono (by have := Q6.out; omega))).setCell (Nat.le_refl _) _)
    have S11 := Lib.hid (show w6.heap.size ≤ w11.heap.size by rw [hs11]; exact Nat.le_trans S68.out C10.out.1)
    clear hw11 hU' hs11 far v4 y4_ u4 t0 t1 t2 t3 tl tb R10 C10 B10 T10 O8 T8 R8 D8
    have tl_ := T11.out.lt
    have rl_ := R11.out.lt
    have t0 := T11.out.cell 0 (.slice U'.dv.A U'.dv.n U'.dv.c) rfl
    have r0 := R11.out.cell 0 (.slice none 0 0) rfl
    have z0 := R11.out.live 0
    have t1 := T11.out.cell 1 (.slice U'.pt.A U'.pt.n U'.pt.c) rfl
    have r1 := R11.out.cell 1 (.slice none 0 0) rfl
    have z1 := R11.out.live 1
    have t2 := T11.out.cell 2 (.slice U'.lk.A U'.lk.n U'.lk.c) rfl
    have r2 := R11.out.cell 2 (.slice none 0 0) rfl
    have z2 := R11.out.live 2
    have t3 := T11.out.cell 3 (.slice U'.dm.A U'.dm.n U'.dm.c) rfl
    have r3 := R11.out.cell 3 (.slice none 0 0) rfl
    have z3 := R11.out.live 3
    have t4 := T11.out.cell 4 (.slice U'.st.A U'.st.n U'.st.c) rfl
    have r4 := R11.out.cell 4 (.slice none 0 0) rfl
    have z4 := R11.out.live 4
    have t5 := T11.out.cell 5 (.slice U'.fl.A U'.fl.n U'.fl.c) rfl
    have r5 := R11.out.cell 5 (.slice none 0 0) rfl
    have z5 := R11.out.live 5
    have t6 := T11.out.cell 6 (.slice U'.vr.A U'.vr.n U'.vr.c) rfl
    have r6 := R11.out.cell 6 (.slice none 0 0) rfl
    have z6 := R11.out.live 6
    have t7 := T11.out.cell 7 (.slice U'.ir.A U'.ir.n U'.ir.c) rfl
    have r7 := R11.out.cell 7 (.slice none 0 0) rfl
    have z7 := R11.out.live 7
    go_wp2
    refine bodyPost_ret (res_cstat _ (st8 w11 (w.heap.size + 2) U') U' (w.heap.size + 2) 0 rfl rfl (R11.out.st8 U')) rfl ?_
    rw [EV.out.1, EV.out.2]
    have ON := O11.out.far (w' := st8 w11 (w.heap.size + 2) U') (q := w.heap.size + 2) (by rw [st8_size]; exact Nat.le_refl _) (fun b hb => st8_other _ _ _ hb) (by have := Q6.out; omega) (fun f => f.elim)
    exact ⟨U', rfl, ON.read, Below.st8 X11.out (by omega) U'⟩
end Go.Proofs.YtkpbbfehglihlaaGreatDoor

/- The chapter's example, as the laws ask for it. (Made by mk-ntworks.py.) -/
namespace Go.Proofs.YtkpbbfehglihlaaGreatDoor
open Go.RowKit

theorem ex_read {W : World} {q : Nat} {T0 T1 T2 : TypeId} (h0 : W.heap[q]? = some (.cells #[.int .i64 0, .int .i64 0, .string ⟨#[97]⟩, .int .u64 0, .int .u32 0] T0)) (h1 : W.heap[q + 1]? = some (.cells #[.int .i64 0, .int .i64 0, .int .i64 10, .int .i64 0, .int .i64 (-1), .string ⟨#[112]⟩, .slice none 0 0] T1)) (h2 : W.heap[q + 1 + 1]? = some (.cells #[.int .i64 0, .int .i64 10, .int .i64 0, .int .i64 (-1), .int .i64 0, .slice none 0 0] T2)) (hs : q + 1 + 1 < W.heap.size) : NRead W (allB W) exN (exS q) :=
  ⟨rsl_one devR W _ q (devC ⟨0, 0, [97], 0, 0⟩) _ (show q < W.heap.size by omega) (by omega) rfl (range_list (T := T0) h0), rsl_one portR W _ (q + 1) (portC ⟨0, 0, 10, 0, -1, [112], []⟩ Sl3.nil) _ (show q + 1 < W.heap.size by omega) (by omega) ⟨Sl3.nil, rfl, RSl.nil⟩ (range_list (T := T1) h1), RSl.nil, rsl_one domR W _ (q + 1 + 1) (domC ⟨0, 10, 0, -1, 0, []⟩ Sl3.nil) _ (show q + 1 + 1 < W.heap.size by omega) (by omega) ⟨Sl3.nil, rfl, RSl.nil⟩ (range_list (T := T2) h2), RSl.nil, RSl.nil, RSl.nil, RSl.nil⟩
end Go.Proofs.YtkpbbfehglihlaaGreatDoor

