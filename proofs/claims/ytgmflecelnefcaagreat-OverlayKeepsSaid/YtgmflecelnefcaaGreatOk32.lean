/- XOlEx; XNtTops; XNtNsm -/
import Derived.Test.YtgmflecelnefcaaGreatOk29
import Derived.Test.YtgmflecelnefcaaGreatOk31
import Derived.Test.YtgmflecelnefcaaGreatOk03
import Derived.Deep.CutBlock
import Derived.Deep.DeepCutAuto
import Derived.Laws.StructEq
/- The chapter's example of stage 19: palinglaw19.works. (Made by mk-olex.py.) -/
namespace Go.Proofs.YtgmflecelnefcaaGreat
open Go.RowKit

theorem ol2 {i : Nat} (h : i < 2) : i = 0 ∨ i = 1 := by omega
def oN0 : NV := ⟨[⟨0, 0, [97], 0, 1⟩, ⟨0, 0, [98], 0, 2⟩], [], [], [⟨0, 10, 5010, -1, 0, []⟩, ⟨1, 10, 5010, -1, 0, []⟩], [], [], [], []⟩
def oX2 : NV := ⟨[⟨0, 0, [97], 0, 1⟩, ⟨0, 0, [98], 0, 2⟩], [], [], [⟨0, 10, 5010, -1, 0, [1]⟩, ⟨1, 10, 5010, -1, 0, [0]⟩], [], [⟨7, 0, 5010, [2]⟩, ⟨0, 1, 5010, [1]⟩], [], []⟩
def oL1 : LV := ⟨7, 7, [97], [], [], [], [], 0, 0, 0, 0, 5010, 0, [], [], [], [2]⟩
def oL2 : LV := ⟨0, 7, [98], [], [], [], [], 0, 0, 0, 0, 5010, 0, [], [], [], [1]⟩
def oN1 : NV := withFlood oN0 7 0 5010 [2]
def oN2 : NV := withFlood oN1 0 1 5010 [1]
theorem o0_ok : NetOk oN0 := by
  refine ⟨by decide, by decide, by decide, by decide, by decide, by decide, by decide, by decide, ⟨?_, ?_⟩, ?_, ?_, ⟨?_, ?_, ?_, ?_⟩⟩
  · intro i hi
    rcases ol2 hi with rfl | rfl <;> exact ⟨by decide, by decide, by decide, by decide, .inl rfl⟩
  · intro i hi
    rcases ol2 hi with rfl | rfl <;> exact fun j hj => absurd hj (Nat.not_lt_zero _)
  all_goals exact fun i hi => absurd hi (Nat.not_lt_zero _)
theorem x2_ok : NetOk oX2 := by
  refine ⟨by decide, by decide, by decide, by decide, by decide, by decide, by decide, by decide, ⟨?_, ?_⟩, ?_, ?_, ⟨?_, ?_, ?_, ?_⟩⟩
  · intro i hi
    rcases ol2 hi with rfl | rfl <;> exact ⟨by decide, by decide, by decide, by decide, .inl rfl⟩
  · intro i hi
    rcases ol2 hi with rfl | rfl <;> (intro j hj; obtain rfl : j = 0 := Nat.lt_one_iff.1 hj; exact ⟨by decide, by decide⟩)
  · exact fun i hi => absurd hi (Nat.not_lt_zero _)
  · exact fun i hi => absurd hi (Nat.not_lt_zero _)
  · exact fun i hi => absurd hi (Nat.not_lt_zero _)
  · intro i hi
    rcases ol2 hi with rfl | rfl <;> exact ⟨by decide, by decide⟩
  all_goals exact fun i hi => absurd hi (Nat.not_lt_zero _)
theorem o1_ok : NetOk oN1 := withFlood_ok 7 5010 o0_ok (by decide) (by decide) (by decide)
theorem o2_ok : NetOk oN2 := withFlood_ok 0 5010 o1_ok (by decide) (by decide) (by decide)
theorem nm_a9 : nmB [97] = true := (nmB_iff _).2 ⟨by decide, by decide, by unfold Lc; decide, fun j hj => by
  obtain rfl : j = 0 := by have h : j < 1 := hj; omega
  exact .inl (by unfold Lc; decide)⟩
theorem nm_b9 : nmB [98] = true := (nmB_iff _).2 ⟨by decide, by decide, by unfold Lc; decide, fun j hj => by
  obtain rfl : j = 0 := by have h : j < 1 := hj; omega
  exact .inl (by unfold Lc; decide)⟩
theorem o_rg1 : rgB oL1 = true := rgB_read 7 oL1 (.inr (.inr (.inr (.inr (.inr (.inr (.inl ⟨[97], 5010, [2], rfl, nm_a9, ⟨by decide, by decide⟩, ⟨by decide, by decide⟩⟩)))))))
theorem o_rg2 : rgB oL2 = true := rgB_read 0 oL2 (.inr (.inr (.inr (.inr (.inr (.inr (.inl ⟨[98], 5010, [1], rfl, nm_b9, ⟨by decide, by decide⟩, ⟨by decide, by decide⟩⟩)))))))
theorem o_f1 : fitsB oN0 oL1 7 = true := fits_iff.2 ⟨rfl, o_rg1, o0_ok⟩
theorem o_f2 : fitsB oN1 oL2 7 = true := fits_iff.2 ⟨rfl, o_rg2, o1_ok⟩
theorem o_p1 : flN oN0 oL1 = oN1 ∧ flE oN0 oL1 = 0 := by
  have e : flE oN0 oL1 = 0 := by rw [fl_go (d := 0) o_f1 (by decide)]; decide
  exact ⟨by unfold flN; rw [if_pos e, show dvF oN0 oL1.dev = 0 by decide]; rfl, e⟩
theorem o_p2 : flN oN1 oL2 = oN2 ∧ flE oN1 oL2 = 0 := by
  have e : flE oN1 oL2 = 0 := by rw [fl_go (d := 1) o_f2 (by decide)]; decide
  exact ⟨by unfold flN; rw [if_pos e, show dvF oN1 oL2.dev = 1 by decide]; rfl, e⟩
theorem o_m1 : meN oN1 = NV.zero ∧ meR oN1 = 7 ∧ meE oN1 = 36 := me_36 (netB_yes o1_ok) (by decide)
theorem o_m2 : meN oN2 = oX2 ∧ meR oN2 = 0 ∧ meE oN2 = 0 := by
  have e : msN oN2 = oX2 := rfl
  have g := me_ok (N := oN2) (netB_yes o2_ok) (by decide) (by rw [e]; exact netB_yes x2_ok)
  rw [e] at g
  exact g
theorem o0_sz : NvSz oN0 := by
  refine ⟨by decide, by decide, by decide, by decide, by decide, by decide, by decide, by decide, ?_, ?_, ?_, ?_⟩
  · exact fun i hi => absurd hi (Nat.not_lt_zero _)
  · intro i hi
    rcases ol2 hi with rfl | rfl <;> decide
  all_goals exact fun i hi => absurd hi (Nat.not_lt_zero _)
theorem o1_sz : NvSz oN1 := fl_sz 7 0 5010 o0_sz (by decide) (by decide)
theorem o2_sz : NvSz oN2 := fl_sz 0 1 5010 o1_sz (by decide) (by decide)
theorem o0_nm : NmSz oN0 := by
  refine ⟨fun k hk => ?_, fun k hk => absurd hk (Nat.not_lt_zero _), fun k hk => absurd hk (Nat.not_lt_zero _)⟩
  rcases ol2 hk with rfl | rfl <;> decide
theorem o1_nm : NmSz oN1 := ⟨o0_nm.1, o0_nm.2, o0_nm.3⟩
theorem o2_nm : NmSz oN2 := ⟨o0_nm.1, o0_nm.2, o0_nm.3⟩
theorem o0_vt : VtOk oN0 := fun k hk => by rcases ol2 hk with rfl | rfl <;> decide
theorem o1_vt : VtOk oN1 := o0_vt
theorem isl_u32 (w : World) (x : Int) (T : TypeId) : ISl (w.alloc (.cells #[.int .u32 x] T)) .u32 (some ⟨w.heap.size, 0, none⟩) 1 1 [x] := by
  refine ⟨rfl, Nat.le_refl _, by unfold maxLen; omega, fun _ => ⟨w.heap.size, 0, rfl, by simp, fun j hj => ?_⟩⟩
  obtain rfl : j = 0 := by omega
  simp
theorem o_put1 (N : NV) (S : NSl3) (w : World) (b : Nat) (h : NRead w (allB w) N S) (hz : NvSz N) (hm : NmSz N) (hv : VtOk N) (hs : ISl w .u32 (some ⟨b, 0, none⟩) 1 1 [2]) : Calls Tryz.prog 14 #[netV S, .agg #[.int .i64 7, .int .i64 7, .string ⟨#[97]⟩, .string ⟨#[]⟩, .string ⟨#[]⟩, .string ⟨#[]⟩, .string ⟨#[]⟩, .int .u64 0, .int .u32 0, .int .i64 0, .int .i64 0, .int .i64 5010, .int .i64 0, .slice none 0 0, .slice none 0 0, .slice none 0 0, .slice (some ⟨b, 0, none⟩) 1 1]] w (GotPutB (flN N oL1) (flE N oL1) w) :=
  coflood_b N S oL1 SlV.nil SlV.nil SlV.nil ⟨some ⟨b, 0, none⟩, 1, 1⟩ w h ⟨ISl.nil, ISl.nil, ISl.nil, hs⟩ hz hm (by decide) (by decide) (by decide) (by decide) hv
theorem o_put2 (N : NV) (S : NSl3) (w : World) (b : Nat) (h : NRead w (allB w) N S) (hz : NvSz N) (hm : NmSz N) (hv : VtOk N) (hs : ISl w .u32 (some ⟨b, 0, none⟩) 1 1 [1]) : Calls Tryz.prog 14 #[netV S, .agg #[.int .i64 0, .int .i64 7, .string ⟨#[98]⟩, .string ⟨#[]⟩, .string ⟨#[]⟩, .string ⟨#[]⟩, .string ⟨#[]⟩, .int .u64 0, .int .u32 0, .int .i64 0, .int .i64 0, .int .i64 5010, .int .i64 0, .slice none 0 0, .slice none 0 0, .slice none 0 0, .slice (some ⟨b, 0, none⟩) 1 1]] w (GotPutB (flN N oL2) (flE N oL2) w) :=
  coflood_b N S oL2 SlV.nil SlV.nil SlV.nil ⟨some ⟨b, 0, none⟩, 1, 1⟩ w h ⟨ISl.nil, ISl.nil, ISl.nil, hs⟩ hz hm (by decide) (by decide) (by decide) (by decide) hv
/-- a net of new blocks, in a world in which an elder block was written -/
theorem NRead.farB {w w' : World} {B q : Nat} {N : NV} {S : NSl3} (h : NRead w (fun b => B ≤ b ∧ b < w.heap.size) N S) (hq : q < B) (hc : ∀ b, b ≠ q → w'.heap[b]? = w.heap[b]?) (hs : w.heap.size ≤ w'.heap.size) : NRead w' (allB w') N S :=
  h.keep (fun b g => hc b (fun e => by have := g.1; omega)) (fun b g => Nat.lt_of_lt_of_le g.2 hs)
def o0S (b : Nat) : NSl3 := ⟨⟨some ⟨b, 0, none⟩, 2, 2⟩, Sl3.nil, Sl3.nil, ⟨some ⟨b + 1, 0, none⟩, 2, 2⟩, Sl3.nil, Sl3.nil, Sl3.nil, Sl3.nil⟩
theorem o0_read {w : World} {b : Nat} (h1 : w.heap[b]? = some (.cells #[.int .i64 0, .int .i64 0, .string ⟨#[97]⟩, .int .u64 0, .int .u32 1, .int .i64 0, .int .i64 0, .string ⟨#[98]⟩, .int .u64 0, .int .u32 2] 58)) (h2 : w.heap[b + 1]? = some (.cells #[.int .i64 0, .int .i64 10, .int .i64 5010, .int .i64 (-1), .int .i64 0, .slice none 0 0, .int .i64 1, .int .i64 10, .int .i64 5010, .int .i64 (-1), .int .i64 0, .slice none 0 0] 54)) (hl : b + 1 < w.heap.size) : NRead w (allB w) oN0 (o0S b) := by
  refine ⟨rsl_rows devR _ _ b oN0.devices (oN0.devices.map devC) 58 (show b < w.heap.size by omega) h1 (by decide) (fun j x hx => ⟨_, by rw [List.getElem?_map, hx]; rfl, rfl⟩), RSl.nil, RSl.nil, ?_, RSl.nil, RSl.nil, RSl.nil, RSl.nil⟩
  exact rsl_rows domR _ _ (b + 1) oN0.domains (oN0.domains.map fun D => domC D Sl3.nil) 54 hl h2 (by decide) (fun j x hx => ⟨_, by rw [List.getElem?_map, hx]; rfl, _, rfl, (by
    match j, hx with
    | 0, hx => obtain rfl : (⟨0, 10, 5010, -1, 0, []⟩ : DomV) = x := by simpa [oN0] using hx
               exact RSl.nil
    | 1, hx => obtain rfl : (⟨1, 10, 5010, -1, 0, []⟩ : DomV) = x := by simpa [oN0] using hx
               exact RSl.nil
    | j + 2, hx => simp [oN0] at hx)⟩)
set_option maxRecDepth 40000 in
set_option maxHeartbeats 16000000 in
theorem works19_any (w : World) : Calls Tryz.prog 8 #[] w fun e w' => e = .returned (.bool true) ∧ Below w.heap.size w w' := by
  go_enter Tryz.func8, Tryz.ntmps8
  go_upto_region 2 with fail
  have e1 : (w.alloc (.cells #[.int .i64 0, .int .i64 0, .string ⟨#[97]⟩, .int .u64 0, .int .u32 1, .int .i64 0, .int .i64 0, .string ⟨#[98]⟩, .int .u64 0, .int .u32 2] 58)).heap.size = w.heap.size + 1 := by simp
  have e2 : ((w.alloc (.cells #[.int .i64 0, .int .i64 0, .string ⟨#[97]⟩, .int .u64 0, .int .u32 1, .int .i64 0, .int .i64 0, .string ⟨#[98]⟩, .int .u64 0, .int .u32 2] 58)).alloc (.cells #[.int .i64 0, .int .i64 10, .int .i64 5010, .int .i64 (-1), .int .i64 0, .slice none 0 0, .int .i64 1, .int .i64 10, .int .i64 5010, .int .i64 (-1), .int .i64 0, .slice none 0 0] 54)).heap.size = w.heap.size + 1 + 1 := by simp
  have g0 := heap_alloc_new w (.cells #[.int .i64 0, .int .i64 0, .string ⟨#[97]⟩, .int .u64 0, .int .u32 1, .int .i64 0, .int .i64 0, .string ⟨#[98]⟩, .int .u64 0, .int .u32 2] 58)
  have g1 := heap_alloc_new (w.alloc (.cells #[.int .i64 0, .int .i64 0, .string ⟨#[97]⟩, .int .u64 0, .int .u32 1, .int .i64 0, .int .i64 0, .string ⟨#[98]⟩, .int .u64 0, .int .u32 2] 58)) (.cells #[.int .i64 0, .int .i64 10, .int .i64 5010, .int .i64 (-1), .int .i64 0, .slice none 0 0, .int .i64 1, .int .i64 10, .int .i64 5010, .int .i64 (-1), .int .i64 0, .slice none 0 0] 54)
  rw [e1] at g1
  have g3 : ((w.alloc (.cells #[.int .i64 0, .int .i64 0, .string ⟨#[97]⟩, .int .u64 0, .int .u32 1, .int .i64 0, .int .i64 0, .string ⟨#[98]⟩, .int .u64 0, .int .u32 2] 58)).alloc (.cells #[.int .i64 0, .int .i64 10, .int .i64 5010, .int .i64 (-1), .int .i64 0, .slice none 0 0, .int .i64 1, .int .i64 10, .int .i64 5010, .int .i64 (-1), .int .i64 0, .slice none 0 0] 54)).heap[w.heap.size]? = _ := (Below.heap_alloc _ _ _ (by simp)).trans g0
  obtain ⟨w2, hw2⟩ : ∃ w2, ((w.alloc (.cells #[.int .i64 0, .int .i64 0, .string ⟨#[97]⟩, .int .u64 0, .int .u32 1, .int .i64 0, .int .i64 0, .string ⟨#[98]⟩, .int .u64 0, .int .u32 2] 58)).alloc (.cells #[.int .i64 0, .int .i64 10, .int .i64 5010, .int .i64 (-1), .int .i64 0, .slice none 0 0, .int .i64 1, .int .i64 10, .int .i64 5010, .int .i64 (-1), .int .i64 0, .slice none 0 0] 54)).alloc (.cells #[.slice (some ⟨w.heap.size, 0, none⟩) 2 2, .slice none 0 0, .slice none 0 0, .slice (some ⟨w.heap.size + 1, 0, none⟩) 2 2, .slice none 0 0, .slice none 0 0, .slice none 0 0, .slice none 0 0] 31) = w2 := ⟨_, rfl⟩
  have K2 : Below ((w.alloc (.cells #[.int .i64 0, .int .i64 0, .string ⟨#[97]⟩, .int .u64 0, .int .u32 1, .int .i64 0, .int .i64 0, .string ⟨#[98]⟩, .int .u64 0, .int .u32 2] 58)).alloc (.cells #[.int .i64 0, .int .i64 10, .int .i64 5010, .int .i64 (-1), .int .i64 0, .slice none 0 0, .int .i64 1, .int .i64 10, .int .i64 5010, .int .i64 (-1), .int .i64 0, .slice none 0 0] 54)).heap.size ((w.alloc (.cells #[.int .i64 0, .int .i64 0, .string ⟨#[97]⟩, .int .u64 0, .int .u32 1, .int .i64 0, .int .i64 0, .string ⟨#[98]⟩, .int .u64 0, .int .u32 2] 58)).alloc (.cells #[.int .i64 0, .int .i64 10, .int .i64 5010, .int .i64 (-1), .int .i64 0, .slice none 0 0, .int .i64 1, .int .i64 10, .int .i64 5010, .int .i64 (-1), .int .i64 0, .slice none 0 0] 54)) w2 := by rw [← hw2]; exact alloc_below _ _
  have s2 : w2.heap.size = w.heap.size + 1 + 1 + 1 := by rw [← hw2]; simp
  have R2 : NRead w2 (allB w2) oN0 (o0S w.heap.size) := o0_read ((K2.block _ (by rw [e2]; omega)).trans g3) ((K2.block _ (by rw [e2]; omega)).trans g1) (by omega)
  have tb : TBx w2 (w.heap.size + 1 + 1) 31 [.slice (some ⟨w.heap.size, 0, none⟩) 2 2, .slice none 0 0, .slice none 0 0, .slice (some ⟨w.heap.size + 1, 0, none⟩) 2 2, .slice none 0 0, .slice none 0 0, .slice none 0 0, .slice none 0 0] := by
    have t := TBx.new ((w.alloc (.cells #[.int .i64 0, .int .i64 0, .string ⟨#[97]⟩, .int .u64 0, .int .u32 1, .int .i64 0, .int .i64 0, .string ⟨#[98]⟩, .int .u64 0, .int .u32 2] 58)).alloc (.cells #[.int .i64 0, .int .i64 10, .int .i64 5010, .int .i64 (-1), .int .i64 0, .slice none 0 0, .int .i64 1, .int .i64 10, .int .i64 5010, .int .i64 (-1), .int .i64 0, .slice none 0 0] 54)) #[.slice (some ⟨w.heap.size, 0, none⟩) 2 2, .slice none 0 0, .slice none 0 0, .slice (some ⟨w.heap.size + 1, 0, none⟩) 2 2, .slice none 0 0, .slice none 0 0, .slice none 0 0, .slice none 0 0] 31
    rw [e2, hw2] at t
    exact t
  have B2 : Below w.heap.size w w2 := (trans_below (alloc_below _ _) (alloc_below _ _)).trans (K2.mono (by rw [e2]; omega))
  have KN := Lib.hid (show ∀ wx, Below w2.heap.size w2 wx → (wx.cell? ⟨w.heap.size + 1 + 1, 0, none⟩ = some (.slice (some ⟨w.heap.size, 0, none⟩) 2 2) ∧ wx.cell? ⟨w.heap.size + 1 + 1, 1, none⟩ = some (.slice none 0 0) ∧ wx.cell? ⟨w.heap.size + 1 + 1, 2, none⟩ = some (.slice none 0 0) ∧ wx.cell? ⟨w.heap.size + 1 + 1, 3, none⟩ = some (.slice (some ⟨w.heap.size + 1, 0, none⟩) 2 2) ∧ wx.cell? ⟨w.heap.size + 1 + 1, 4, none⟩ = some (.slice none 0 0) ∧ wx.cell? ⟨w.heap.size + 1 + 1, 5, none⟩ = some (.slice none 0 0) ∧ wx.cell? ⟨w.heap.size + 1 + 1, 6, none⟩ = some (.slice none 0 0) ∧ wx.cell? ⟨w.heap.size + 1 + 1, 7, none⟩ = some (.slice none 0 0)) ∧ NRead wx (allB wx) oN0 (o0S w.heap.size) ∧ Below w.heap.size w wx from fun wx hx => by
    have t := tb.below hx
    exact ⟨⟨t.cell 0 _ rfl, t.cell 1 _ rfl, t.cell 2 _ rfl, t.cell 3 _ rfl, t.cell 4 _ rfl, t.cell 5 _ rfl, t.cell 6 _ rfl, t.cell 7 _ rfl⟩, R2.up hx, trans_below B2 hx⟩)
  have ql : w.heap.size + 1 + 1 < w2.heap.size := by omega
  rw [hw2]
  clear e1 e2 g0 g1 g3 hw2 K2 s2 R2 tb B2
  have P1 := fun (wx : World) (b : Nat) (hx : Below w2.heap.size w2 wx) (hs : ISl wx .u32 (some ⟨b, 0, none⟩) 1 1 [2]) => o_put1 oN0 _ wx b (KN.out wx hx).2.1 o0_sz o0_nm o0_vt hs
  rw [o_p1.1, o_p1.2] at P1
  have P2 := fun (U : NSl3) (wx : World) (b : Nat) (h : NRead wx (allB wx) oN1 U) (hs : ISl wx .u32 (some ⟨b, 0, none⟩) 1 1 [1]) => o_put2 oN1 U wx b h o1_sz o1_nm o1_vt hs
  rw [o_p2.1, o_p2.2] at P2
  have M1 := fun (U : NSl3) (wx : World) (h : NRead wx (allB wx) oN1 U) => xmesh_b oN1 U wx h o1_sz o1_nm
  rw [o_m1.1, o_m1.2.1, o_m1.2.2] at M1
  have M2 := fun (U : NSl3) (wx : World) (h : NRead wx (allB wx) oN2 U) => xmesh_b oN2 U wx h o2_sz o2_nm
  rw [o_m2.1, o_m2.2.1, o_m2.2.2] at M2
  unfold GotPutB at P1 P2
  unfold GotMeB at M1 M2
  unfold netV o0S Sl3.nil at P1
  unfold netV at P2 M1 M2
  dsimp only at P1
  replace P1 := Lib.hid P1
  replace P2 := Lib.hid P2
  replace M1 := Lib.hid M1
  replace M2 := Lib.hid M2
  obtain ⟨f0, f1, f2, f3, f4, f5, f6, f7⟩ := (KN.out _ (Below.refl _ _)).1
  go_upto_region 3 with (go_at_call 14; (refine (P1.out _ w2.heap.size (alloc_below _ _) (isl_u32 w2 2 _)).mono ?_); rintro e w3 ⟨U, rfl, hr, hb⟩; have R3 := Lib.hid hr; have Y3 := Lib.hid (trans_below (alloc_below w2 (.cells #[.int .u32 2] 33)) hb); clear hr hb)
  clear f0 f1 f2 f3 f4 f5 f6 f7
  obtain ⟨w4, hw4⟩ : ∃ w4, w3.alloc (.cells #[.slice U.dv.A U.dv.n U.dv.c, .slice U.pt.A U.pt.n U.pt.c, .slice U.lk.A U.lk.n U.lk.c, .slice U.dm.A U.dm.n U.dm.c, .slice U.st.A U.st.n U.st.c, .slice U.fl.A U.fl.n U.fl.c, .slice U.vr.A U.vr.n U.vr.c, .slice U.ir.A U.ir.n U.ir.c] 31) = w4 := ⟨_, rfl⟩
  obtain ⟨qm, hqm⟩ : ∃ q, w3.heap.size = q := ⟨_, rfl⟩
  have A4 : Below w3.heap.size w3 w4 := by rw [← hw4]; exact alloc_below _ _
  have T4 := Lib.hid (show TBx w4 qm 31 (netC U) by rw [← hw4, ← hqm]; exact TBx.new w3 _ _)
  have R4 := Lib.hid (show NRead w4 (allB w4) oN1 U from R3.out.keep (fun b g => A4.block b g.2) (fun b g => Nat.lt_of_lt_of_le g.2 A4.size))
  have Y4 := Lib.hid (trans_below Y3.out A4)
  have QM := Lib.hid (show w2.heap.size ≤ qm by rw [← hqm]; exact Y3.out.size)
  rw [hw4]
  rw [hqm]
  clear hw4 hqm A4 R3 Y3
  have t0 := T4.out.cell 0 (.slice U.dv.A U.dv.n U.dv.c) rfl
  have t1 := T4.out.cell 1 (.slice U.pt.A U.pt.n U.pt.c) rfl
  have t2 := T4.out.cell 2 (.slice U.lk.A U.lk.n U.lk.c) rfl
  have t3 := T4.out.cell 3 (.slice U.dm.A U.dm.n U.dm.c) rfl
  have t4 := T4.out.cell 4 (.slice U.st.A U.st.n U.st.c) rfl
  have t5 := T4.out.cell 5 (.slice U.fl.A U.fl.n U.fl.c) rfl
  have t6 := T4.out.cell 6 (.slice U.vr.A U.vr.n U.vr.c) rfl
  have t7 := T4.out.cell 7 (.slice U.ir.A U.ir.n U.ir.c) rfl
  have ul_ := T4.out.lt
  go_upto_region 4 with (go_at_call 17; (refine (M1.out U _ R4.out).mono ?_); rintro e w5 ⟨V, rfl, hr, hb⟩; have T5 := Lib.hid (T4.out.below hb); have R5 := Lib.hid (R4.out.up hb); have Y5 := Lib.hid (trans_below Y4.out hb); clear hr hb t0 t1 t2 t3 t4 t5 t6 t7 ul_)
  obtain ⟨w6, hw6⟩ : ∃ w6, w5.alloc (.cells #[.slice V.dv.A V.dv.n V.dv.c, .slice V.pt.A V.pt.n V.pt.c, .slice V.lk.A V.lk.n V.lk.c, .slice V.dm.A V.dm.n V.dm.c, .slice V.st.A V.st.n V.st.c, .slice V.fl.A V.fl.n V.fl.c, .slice V.vr.A V.vr.n V.vr.c, .slice V.ir.A V.ir.n V.ir.c] 31) = w6 := ⟨_, rfl⟩
  have A6 : Below w5.heap.size w5 w6 := by rw [← hw6]; exact alloc_below _ _
  have T6 := Lib.hid (T5.out.below A6)
  have R6 := Lib.hid (R5.out.up A6)
  have Y6 := Lib.hid (trans_below Y5.out A6)
  rw [hw6]
  clear hw6 A6 T5 R5 T4 R4
  have t0 := T6.out.cell 0 (.slice U.dv.A U.dv.n U.dv.c) rfl
  have t1 := T6.out.cell 1 (.slice U.pt.A U.pt.n U.pt.c) rfl
  have t2 := T6.out.cell 2 (.slice U.lk.A U.lk.n U.lk.c) rfl
  have t3 := T6.out.cell 3 (.slice U.dm.A U.dm.n U.dm.c) rfl
  have t4 := T6.out.cell 4 (.slice U.st.A U.st.n U.st.c) rfl
  have t5 := T6.out.cell 5 (.slice U.fl.A U.fl.n U.fl.c) rfl
  have t6 := T6.out.cell 6 (.slice U.vr.A U.vr.n U.vr.c) rfl
  have t7 := T6.out.cell 7 (.slice U.ir.A U.ir.n U.ir.c) rfl
  have ul_ := T6.out.lt
  go_upto_region 5 with (go_at_call 14; (refine (P2.out U _ w6.heap.size (R6.out.up (alloc_below _ _)) (isl_u32 w6 1 _)).mono ?_); rintro e w7 ⟨U2, rfl, hr, hb⟩; have R7 := Lib.hid hr; have Y7 := Lib.hid (trans_below Y6.out (trans_below (alloc_below w6 (.cells #[.int .u32 1] 33)) hb)); have T7 := Lib.hid (T6.out.below (trans_below (alloc_below w6 (.cells #[.int .u32 1] 33)) hb)); have L7 := Lib.hid (show qm < w6.heap.size from T6.out.lt); clear hr hb t0 t1 t2 t3 t4 t5 t6 t7 ul_; have t0 := T7.out.cell 0 (.slice U.dv.A U.dv.n U.dv.c) rfl; have z0 := T7.out.live 0; have t1 := T7.out.cell 1 (.slice U.pt.A U.pt.n U.pt.c) rfl; have z1 := T7.out.live 1; have t2 := T7.out.cell 2 (.slice U.lk.A U.lk.n U.lk.c) rfl; have z2 := T7.out.live 2; have t3 := T7.out.cell 3 (.slice U.dm.A U.dm.n U.dm.c) rfl; have z3 := T7.out.live 3; have t4 := T7.out.cell 4 (.slice U.st.A U.st.n U.st.c) rfl; have z4 := T7.out.live 4; have t5 := T7.out.cell 5 (.slice U.fl.A U.fl.n U.fl.c) rfl; have z5 := T7.out.live 5; have t6 := T7.out.cell 6 (.slice U.vr.A U.vr.n U.vr.c) rfl; have z6 := T7.out.live 6; have t7 := T7.out.cell 7 (.slice U.ir.A U.ir.n U.ir.c) rfl; have z7 := T7.out.live 7; have ul_ := T7.out.lt)
  clear t0 t1 t2 t3 t4 t5 t6 t7 z0 z1 z2 z3 z4 z5 z6 z7 ul_
  generalize hw8 : World.setCell _ _ _ = w8
  have hw8 : st8 w7 qm U2 = w8 := hw8
  have T8 := Lib.hid (show TBx w8 qm 31 (netC U2) by rw [← hw8]; exact T7.out.st8 U2)
  have R8 := Lib.hid (show NRead w8 (allB w8) oN2 U2 from R7.out.farB (q := qm) (by have := L7.out; simp; omega) (fun b hb => by rw [← hw8]; exact st8_other _ _ _ hb) (by rw [← hw8, st8_size]; exact Nat.le_refl _))
  have Y8 := Lib.hid (show Below w2.heap.size w2 w8 by rw [← hw8]; exact Below.st8 Y7.out QM.out U2)
  clear hw8 R7 Y7 T7
  have t0 := T8.out.cell 0 (.slice U2.dv.A U2.dv.n U2.dv.c) rfl
  have t1 := T8.out.cell 1 (.slice U2.pt.A U2.pt.n U2.pt.c) rfl
  have t2 := T8.out.cell 2 (.slice U2.lk.A U2.lk.n U2.lk.c) rfl
  have t3 := T8.out.cell 3 (.slice U2.dm.A U2.dm.n U2.dm.c) rfl
  have t4 := T8.out.cell 4 (.slice U2.st.A U2.st.n U2.st.c) rfl
  have t5 := T8.out.cell 5 (.slice U2.fl.A U2.fl.n U2.fl.c) rfl
  have t6 := T8.out.cell 6 (.slice U2.vr.A U2.vr.n U2.vr.c) rfl
  have t7 := T8.out.cell 7 (.slice U2.ir.A U2.ir.n U2.ir.c) rfl
  have ul_ := T8.out.lt
  go_upto_region 6 with (go_at_call 17; (refine (M2.out U2 _ R8.out).mono ?_); rintro e w9 ⟨U3, rfl, hr, hb⟩; have R9 := Lib.hid hr; have Y9 := Lib.hid (trans_below Y8.out hb); have T9 := Lib.hid (T8.out.below hb); have L9 := Lib.hid (show qm < w8.heap.size from T8.out.lt); clear hr hb t0 t1 t2 t3 t4 t5 t6 t7 ul_; have t0 := T9.out.cell 0 (.slice U2.dv.A U2.dv.n U2.dv.c) rfl; have z0 := T9.out.live 0; have t1 := T9.out.cell 1 (.slice U2.pt.A U2.pt.n U2.pt.c) rfl; have z1 := T9.out.live 1; have t2 := T9.out.cell 2 (.slice U2.lk.A U2.lk.n U2.lk.c) rfl; have z2 := T9.out.live 2; have t3 := T9.out.cell 3 (.slice U2.dm.A U2.dm.n U2.dm.c) rfl; have z3 := T9.out.live 3; have t4 := T9.out.cell 4 (.slice U2.st.A U2.st.n U2.st.c) rfl; have z4 := T9.out.live 4; have t5 := T9.out.cell 5 (.slice U2.fl.A U2.fl.n U2.fl.c) rfl; have z5 := T9.out.live 5; have t6 := T9.out.cell 6 (.slice U2.vr.A U2.vr.n U2.vr.c) rfl; have z6 := T9.out.live 6; have t7 := T9.out.cell 7 (.slice U2.ir.A U2.ir.n U2.ir.c) rfl; have z7 := T9.out.live 7; have ul_ := T9.out.lt)
  clear t0 t1 t2 t3 t4 t5 t6 t7 z0 z1 z2 z3 z4 z5 z6 z7 ul_
  generalize hwa : World.setCell _ _ _ = wa
  have hwa : st8 w9 qm U3 = wa := hwa
  have TA := Lib.hid (show TBx wa qm 31 (netC U3) by rw [← hwa]; exact T9.out.st8 U3)
  have RA := R9.out.farB (w' := wa) (q := qm) L9.out (fun b hb => by rw [← hwa]; exact st8_other _ _ _ hb) (by rw [← hwa, st8_size]; exact Nat.le_refl _)
  have YA := Lib.hid (show Below w2.heap.size w2 wa by rw [← hwa]; exact Below.st8 Y9.out QM.out U3)
  clear hwa R9 Y9 T9
  have ln := RA.dm.len
  have ln2 : U3.dm.n = 2 := by rw [← ln]; rfl
  obtain ⟨bd, od, vd, ed, _, _, ⟨s, rfl, ls⟩, rd⟩ := rsl_at RA.dm 0 (by omega) DomV.zero
  have sl := ls.len
  have sn : s.n = 1 := by rw [← sl]; rfl
  obtain ⟨ba, oa, es, _, hca⟩ := (isl_rsl ls).2.2.2 (by omega)
  have ca_ := hca 0 (by omega)
  have ca_ : wa.cell? ⟨ba, oa, none⟩ = some (.int .i64 1) := ca_
  have cd_ : wa.cell? ⟨bd, od + 5, none⟩ = some (.slice s.A s.n s.c) := by have e := rd 5 _ rfl; rwa [Nat.zero_mul, Nat.add_zero] at e
  rw [es, sn] at cd_
  have u3_ := TA.out.cell 3 (.slice U3.dm.A U3.dm.n U3.dm.c) rfl
  have ul_ := TA.out.lt
  rw [ed, ln2] at u3_
  have dle := RA.dm.le
  have sle := ls.le
  rw [ln2] at dle
  rw [sn] at sle
  clear rd ls hca RA ln sl ed es
  go_wp2
  go_ret
  exact ⟨by first | rfl | simp, (KN.out _ YA.out).2.2⟩
end Go.Proofs.YtgmflecelnefcaaGreat

/- The contract of palingref15.tops: the same devices, links, statics and interfaces? (Made by mk-nttops.py.) -/
namespace Go.Proofs.YtgmflecelnefcaaGreat
open Go.RowKit

theorem list_eq_getD {α : Type} (d : α) {xs ys : List α} (hl : xs.length = ys.length) (h : ∀ j, j < xs.length → xs.getD j d = ys.getD j d) : xs = ys := by
  apply List.ext_getElem hl
  intro j h1 h2
  have := h j h1
  simpa [List.getD, List.getElem?_eq_getElem h1, List.getElem?_eq_getElem h2] using this
/-! Two records compared. -/
theorem eq_dev (X Y : DevV) (V : Bool) (hV : V = true ↔ X = Y) (W : World) : (Op.equalIn 10000 58 (.agg (devC X).toArray) (.agg (devC Y).toArray)).run Tryz.prog W = .ok V W := by
  rw [show (10000 : Nat) = 9999 + 1 from rfl, run_equalIn_struct W 9999 58 _ _ (by kernel_rfl) (by kernel_rfl)]
  obtain ⟨x0, x1, x2, x3, x4⟩ := X
  obtain ⟨y0, y1, y2, y3, y4⟩ := Y
  simp only [DevV.mk.injEq] at hV
  simp [Program.fieldsOf, Tryz.underlying58, Op.eqFields, go_sem, devC]
  cases V with
  | true =>
    have e := hV.1 rfl
    simp [e]
  | false =>
    have e := fun g => (show False by have := hV.2 g; cases this)
    repeat' split
    all_goals simp_all
theorem eq_link (X Y : LinkV) (V : Bool) (hV : V = true ↔ X = Y) (W : World) : (Op.equalIn 10000 84 (.agg (linkC X).toArray) (.agg (linkC Y).toArray)).run Tryz.prog W = .ok V W := by
  rw [show (10000 : Nat) = 9999 + 1 from rfl, run_equalIn_struct W 9999 84 _ _ (by kernel_rfl) (by kernel_rfl)]
  obtain ⟨x0, x1, x2⟩ := X
  obtain ⟨y0, y1, y2⟩ := Y
  simp only [LinkV.mk.injEq] at hV
  simp [Program.fieldsOf, Tryz.underlying84, Op.eqFields, go_sem, linkC]
  cases V with
  | true =>
    have e := hV.1 rfl
    simp [e]
  | false =>
    have e := fun g => (show False by have := hV.2 g; cases this)
    repeat' split
    all_goals simp_all
theorem eq_stat (X Y : StatV) (V : Bool) (hV : V = true ↔ X = Y) (W : World) : (Op.equalIn 10000 89 (.agg (statC X).toArray) (.agg (statC Y).toArray)).run Tryz.prog W = .ok V W := by
  rw [show (10000 : Nat) = 9999 + 1 from rfl, run_equalIn_struct W 9999 89 _ _ (by kernel_rfl) (by kernel_rfl)]
  obtain ⟨x0, x1, x2, x3⟩ := X
  obtain ⟨y0, y1, y2, y3⟩ := Y
  simp only [StatV.mk.injEq] at hV
  simp [Program.fieldsOf, Tryz.underlying89, Op.eqFields, go_sem, statC]
  cases V with
  | true =>
    have e := hV.1 rfl
    simp [e]
  | false =>
    have e := fun g => (show False by have := hV.2 g; cases this)
    repeat' split
    all_goals simp_all
theorem eq_irb (X Y : IrbV) (V : Bool) (hV : V = true ↔ X = Y) (W : World) : (Op.equalIn 10000 98 (.agg (irbC X).toArray) (.agg (irbC Y).toArray)).run Tryz.prog W = .ok V W := by
  rw [show (10000 : Nat) = 9999 + 1 from rfl, run_equalIn_struct W 9999 98 _ _ (by kernel_rfl) (by kernel_rfl)]
  obtain ⟨x0, x1, x2, x3, x4⟩ := X
  obtain ⟨y0, y1, y2, y3, y4⟩ := Y
  simp only [IrbV.mk.injEq] at hV
  simp [Program.fieldsOf, Tryz.underlying98, Op.eqFields, go_sem, irbC]
  cases V with
  | true =>
    have e := hV.1 rfl
    simp [e]
  | false =>
    have e := fun g => (show False by have := hV.2 g; cases this)
    repeat' split
    all_goals simp_all
def topsOk (N M : NV) : Prop := N.devices = M.devices ∧ N.links = M.links ∧ N.statics = M.statics ∧ N.irbs = M.irbs
end Go.Proofs.YtgmflecelnefcaaGreat

/- Two nets alike in all. (Made by mk-ntself.py.) -/
namespace Go.Proofs.YtgmflecelnefcaaGreat
open Go.RowKit

theorem port_ext {X Y : PortV} (h0 : X.row = Y.row) (h1 : X.dev = Y.dev) (h2 : X.native = Y.native) (h3 : X.cost = Y.cost) (h4 : X.link = Y.link) (h5 : X.name = Y.name) (h6 : X.tagged = Y.tagged) : X = Y := by
  cases X
  cases Y
  simp_all
theorem dom_ext {X Y : DomV} (h0 : X.dev = Y.dev) (h1 : X.vlan = Y.vlan) (h2 : X.vni = Y.vni) (h3 : X.irb = Y.irb) (h4 : X.row = Y.row) (h5 : X.peers = Y.peers) : X = Y := by
  cases X
  cases Y
  simp_all
theorem flood_ext {X Y : FloodV} (h0 : X.row = Y.row) (h1 : X.dev = Y.dev) (h2 : X.vni = Y.vni) (h3 : X.addrs = Y.addrs) : X = Y := by
  cases X
  cases Y
  simp_all
theorem vrf_ext {X Y : VrfV} (h0 : X.row = Y.row) (h1 : X.dev = Y.dev) (h2 : X.name = Y.name) (h3 : X.imports = Y.imports) (h4 : X.exports = Y.exports) : X = Y := by
  cases X
  cases Y
  simp_all
/-- alike? -/
noncomputable def nsmB (N M : NV) : Bool := @decide (N = M) (Classical.propDecidable _)
theorem nsmB_no {N M : NV} (h : ¬ N = M) : nsmB N M = false := by
  unfold nsmB
  exact @decide_eq_false _ (Classical.propDecidable _) h
theorem nsmB_yes {N M : NV} (h : N = M) : nsmB N M = true := by
  unfold nsmB
  exact @decide_eq_true _ (Classical.propDecidable _) h
theorem nv_ext {N M : NV} (ht : topsOk N M) (h1 : N.ports = M.ports) (h2 : N.domains = M.domains) (h3 : N.floods = M.floods) (h4 : N.vrfs = M.vrfs) : N = M := by
  obtain ⟨a, b, c, d⟩ := ht
  cases N
  cases M
  simp_all
end Go.Proofs.YtgmflecelnefcaaGreat

