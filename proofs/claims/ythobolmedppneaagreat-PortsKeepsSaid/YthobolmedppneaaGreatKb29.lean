/- XNoRefDev; XNoRefPort; XNpLack; XNpKnow -/
import Derived.Test.YthobolmedppneaaGreatKb26
import Derived.Test.YthobolmedppneaaGreatKb28
import Derived.Test.YthobolmedppneaaGreatKb17
import Derived.Test.YthobolmedppneaaGreatKb03
import Derived.Test.YthobolmedppneaaGreatKb11
import Derived.Test.YthobolmedppneaaGreatKb25
import Derived.Test.YthobolmedppneaaGreatKb06
import Derived.Test.YthobolmedppneaaGreatKb10
/- The contract of palingref16.Device: a net with a line's device. (Made by mk-norefdev.py.) -/
namespace Go.Proofs.YthobolmedppneaaGreat
open Go.RowKit

/-- a net beside a number, as a call returns it -/
def GotPut (N : NV) (E : Int) (w : World) (e : Ending) (w' : World) : Prop := ∃ U, e = .returned (.tuple #[netV U, .int .i64 E]) ∧ NRead w' (allB w') N U ∧ Below w.heap.size w w'
theorem pd_err {N : NV} {L : LV} {E : Int} (h : pdE N L = E) (h0 : E ≠ 0) : pdN N L = NV.zero ∧ pdE N L = E := ⟨by unfold pdN; rw [if_neg (by rw [h]; exact h0)], h⟩
theorem pd_2 {N : NV} {L : LV} (h : fitsB N L 1 = false) : pdN N L = NV.zero ∧ pdE N L = 2 := pd_err (by unfold pdE; rw [if_pos h]) (by decide)
theorem pd_0 {N : NV} {L : LV} (h : fitsB N L 1 = true) (g : dvDup N L = false) (z : ¬ 8 ≤ N.devices.length) : pdN N L = withDev N L ∧ pdE N L = 0 := by
  have e : pdE N L = 0 := by unfold pdE; rw [if_neg (by rw [h]; decide), if_neg (by rw [g]; decide), if_neg z]
  exact ⟨by unfold pdN; rw [if_pos e], e⟩
theorem NOwn.far {w w' : World} {B q : Nat} {F : Nat → Prop} {N : NV} {S : NSl3} (h : NOwn w B F N S) (hs : w.heap.size ≤ w'.heap.size) (hc : ∀ b, b ≠ q → w'.heap[b]? = w.heap[b]?) (hq : q < B) (hF : ¬ F q) : NOwn w' B F N S := by
  have key : ∀ {α : Type} {R : Rdr α} {T : TypeId} {s : Sl3} {xs : List α}, RI R w B F T s xs → RI R w' B F T s xs := fun g =>
    g.keep hs (fun b cur hB _ => hc b (by omega)) (fun b hb => hc b (fun e => by
      subst e
      rcases hb.2 with g | g
      · exact hF g
      · have := g.1; omega))
  exact ⟨key h.dv, key h.pt, key h.lk, key h.dm, key h.st, key h.fl, key h.vr, key h.ir⟩
theorem dup_some {N : NV} {L : LV} {k : Nat} (hk : k < N.devices.length) (h : (N.devices.getD k DevV.zero).name = L.dev ∨ (N.devices.getD k DevV.zero).mac = L.mac) : dvDup N L = true := by
  unfold dvDup
  rw [List.any_eq_true]
  refine ⟨N.devices.getD k DevV.zero, by simp [List.getD, hk], ?_⟩
  rw [Bool.or_eq_true, decide_eq_true_eq, decide_eq_true_eq]
  exact h
end Go.Proofs.YthobolmedppneaaGreat

/- The contract of palingref16.Port: a net with a line's port. (Made by mk-norefport.py.) -/
namespace Go.Proofs.YthobolmedppneaaGreat
open Go.RowKit

theorem pp_err {N : NV} {L : LV} {E : Int} (h : ppE N L = E) (h0 : E ≠ 0) : ppN N L = NV.zero ∧ ppE N L = E := ⟨by unfold ppN; rw [if_neg (by rw [h]; exact h0)], h⟩
theorem pp_2 {N : NV} {L : LV} (h : fitsB N L 2 = false) : ppN N L = NV.zero ∧ ppE N L = 2 := pp_err (by unfold ppE; rw [if_pos h]) (by decide)
theorem pp_30 {N : NV} {L : LV} (h : fitsB N L 2 = true) (d : ¬ dvF N L.dev < 0) (p : 0 ≤ ptF N (dvF N L.dev) L.port) : ppN N L = NV.zero ∧ ppE N L = 30 := pp_err (by unfold ppE; rw [if_neg (by rw [h]; decide), if_neg d, if_pos p]) (by decide)
theorem pp_0 {N : NV} {L : LV} (h : fitsB N L 2 = true) (d : ¬ dvF N L.dev < 0) (p : ¬ 0 ≤ ptF N (dvF N L.dev) L.port) (z : ¬ (40 ≤ N.ports.length ∨ 48 < N.domains.length + (lkL N (dvF N L.dev) L).length)) : ppN N L = withPort N L ∧ ppE N L = 0 := by
  have e : ppE N L = 0 := by unfold ppE; rw [if_neg (by rw [h]; decide), if_neg d, if_neg p, if_neg z]
  exact ⟨by unfold ppN; rw [if_pos e], e⟩
theorem wpList_ints {P : Program} {w : World} {B : Nat} {k : IntKind} {ops : Array Oper} {rest : List Oper} {o : Oper} {a : Act} {Q : Exit → Act → World → Prop} (hgd : o.guard = none) (x y : Operand) (t T : TypeId) (ht : P.underlying t = some (.slice T)) (hd : Desc P T 1)
    (ho : o.op = .call { callee := .builtin .append, args := #[x, y], argTypes := #[t, t] }) (s : Sl3) (xs : List Int) (h : OwnI k T w B s xs) (A : Option Addr) (m c : Nat) (ys : List Int) (hy : ISl w k A m c ys) (hn : xs.length + m ≤ 100000) (hB : B ≤ w.heap.size)
    (hx : a.eval x = .slice s.A s.n s.c) (hyv : a.eval y = .slice A m c)
    (hq : ∀ (s' : Sl3) w', OwnI k T w' B s' (xs ++ ys) → w.grownBy w' (Value.slice s.A s.n s.c).ownBlock → Below B w w' → wpList P ops Q rest (a.put o.dst (.slice s'.A s'.n s'.c)) w') : wpList P ops Q (o :: rest) a w := by
  obtain ⟨s', w', hr, h1, h2, h3⟩ := run_ints t o.type T ht hd s xs h A m c ys hy hn hB
  refine wpList_plain hgd fun K hK => ?_
  unfold Oper.wp execOp
  simp only [ho, resolve, invoke, builtin, Sem.run_bind, Sem.run_pure, Result.andThen_ok, List.map_toArray, List.map_cons, List.map_nil, hx, hyv, hr]
  exact hK _ _ (hq s' w' h1 h2 h3)
end Go.Proofs.YthobolmedppneaaGreat

/- Package ports: the VLANs of a port's line that a device has no domain for. (Made by mk-nplack.py.) -/
namespace Go.Proofs.YthobolmedppneaaGreat
open Go.RowKit

/-- is the VLAN none, or has the device a domain of it? -/
def hasB (N : NV) (dev v : Int) : Bool := decide (v = 0) || !decide (atF N dev v = -1)
theorem hasB_filter (N : NV) (dev : Int) (L : LV) : ((L.vlan :: L.tagged).filter fun x => !hasB N dev x) = lkL N dev L := by
  unfold lkL hasB
  congr 1
  funext x
  by_cases h : x = 0 <;> simp [h]
set_option maxRecDepth 20000 in
set_option maxHeartbeats 4000000 in
theorem lacks1_any (N : NV) (U : NSl3) (q p1 p2 : Nat) (dev v : Int) (w : World) (h : NRead w (allB w) N U) (hz : NvSz N) (hn : NetOk N) (hb : TBx w q 116 (netC U)) (c1 : w.cell? ⟨p1, 0, none⟩ = some (.pointer (some ⟨q, 0, none⟩))) (c2 : w.cell? ⟨p2, 0, none⟩ = some (.int .i64 dev)) :
    Calls Tryz.prog 130 #[.int .i64 v, .pointer (some ⟨p1, 0, none⟩), .pointer (some ⟨p2, 0, none⟩)] w fun e w' => e = .returned (.bool (hasB N dev v)) ∧ Below w.heap.size w w' := by
  obtain ⟨a, ha⟩ : ∃ a, atF N dev v = a := ⟨_, rfl⟩
  have DC := fun (w' : World) (hb : Below w.heap.size w w') => xndomain_any N U dev v w' (h.up hb) hz hn
  rw [ha] at DC
  unfold netV at DC
  have DC := Lib.hid DC
  have HV := Lib.hid (show hasB N dev v = (decide (v = 0) || !decide (a = -1)) by unfold hasB; rw [ha])
  rw [HV.out]
  have KR := Lib.hid (show ∀ wx, Below w.heap.size w wx → (wx.cell? ⟨q, 0, none⟩ = some (.slice U.dv.A U.dv.n U.dv.c) ∧ wx.cell? ⟨q, 1, none⟩ = some (.slice U.pt.A U.pt.n U.pt.c) ∧ wx.cell? ⟨q, 2, none⟩ = some (.slice U.lk.A U.lk.n U.lk.c) ∧ wx.cell? ⟨q, 3, none⟩ = some (.slice U.dm.A U.dm.n U.dm.c) ∧ wx.cell? ⟨q, 4, none⟩ = some (.slice U.st.A U.st.n U.st.c) ∧ wx.cell? ⟨q, 5, none⟩ = some (.slice U.fl.A U.fl.n U.fl.c) ∧ wx.cell? ⟨q, 6, none⟩ = some (.slice U.vr.A U.vr.n U.vr.c) ∧ wx.cell? ⟨q, 7, none⟩ = some (.slice U.ir.A U.ir.n U.ir.c)) ∧ wx.cell? ⟨p1, 0, none⟩ = some (.pointer (some ⟨q, 0, none⟩)) ∧ wx.cell? ⟨p2, 0, none⟩ = some (.int .i64 dev) ∧ q < wx.heap.size ∧ p1 < wx.heap.size ∧ p2 < wx.heap.size from fun wx hx => by
    have tb := hb.below hx
    have l1 : p1 < w.heap.size := World.block_lt_of_cell? w _ c1
    have l2 : p2 < w.heap.size := World.block_lt_of_cell? w _ c2
    exact ⟨⟨tb.cell 0 _ rfl, tb.cell 1 _ rfl, tb.cell 2 _ rfl, tb.cell 3 _ rfl, tb.cell 4 _ rfl, tb.cell 5 _ rfl, tb.cell 6 _ rfl, tb.cell 7 _ rfl⟩, (hx.cell (p := ⟨p1, 0, none⟩) l1).trans c1, (hx.cell (p := ⟨p2, 0, none⟩) l2).trans c2, tb.lt, Nat.lt_of_lt_of_le l1 hx.size, Nat.lt_of_lt_of_le l2 hx.size⟩)
  clear h hz hn hb c1 c2 ha
  go_enter Tryz.func130, Tryz.ntmps130
  go_upto_region 1 with fail
  by_cases vz : v = 0
  · have x1 : (v == 0) = true := by simpa using vz
    have EV := Lib.hid (show (decide (v = 0) || !decide (a = -1)) = true by simp [vz])
    clear vz
    refine wp_region_text (fun wx => Below w.heap.size w wx) (by kernel_rfl) (by kernel_rfl) ((Below.refl _ _).drew) ?_
    repeat
      first
        | (refine Seq.pass rfl ?_; simp only [Act.put, List.setIfInBounds_toArray, List.set_cons_zero, List.set_cons_succ])
        | (refine Seq.run ?_ rfl (fun wx hx => ?_) ?_
           rotate_left
           · obtain ⟨⟨t0, t1, t2, t3, t4, t5, t6, t7⟩, k1, k2, m0, m1, m2⟩ := KR.out wx hx
             go_simp
             first
               | (refine StepRun.val ?_; exact hx)
               | (refine StepRun.call (v := .int .i64 a) ?_; (with_reducible refine Calls.mono (DC.out _ hx) ?_); rintro e w' ⟨rfl, hb⟩; exact ⟨rfl, trans_below hx hb⟩)
           simp only [Act.put, List.setIfInBounds_toArray, List.set_cons_zero, List.set_cons_succ])
    refine Seq.last (fun wx hx => ?_)
    go_wp2
    go_ret
    exact ⟨by rw [EV.out]; rfl, hx⟩
  · have x1 : (v == 0) = false := by simpa using vz
    have EV := Lib.hid (show (decide (v = 0) || !decide (a = -1)) = (a != -1) by
      by_cases az : a = -1
      · simp [vz, az]
      · simp [vz, az])
    clear vz
    refine wp_region_text (fun wx => Below w.heap.size w wx) (by kernel_rfl) (by kernel_rfl) ((Below.refl _ _).drew) ?_
    repeat
      first
        | (refine Seq.pass rfl ?_; simp only [Act.put, List.setIfInBounds_toArray, List.set_cons_zero, List.set_cons_succ])
        | (refine Seq.run ?_ rfl (fun wx hx => ?_) ?_
           rotate_left
           · obtain ⟨⟨t0, t1, t2, t3, t4, t5, t6, t7⟩, k1, k2, m0, m1, m2⟩ := KR.out wx hx
             go_simp
             first
               | (refine StepRun.val ?_; exact hx)
               | (refine StepRun.call (v := .int .i64 a) ?_; (with_reducible refine Calls.mono (DC.out _ hx) ?_); rintro e w' ⟨rfl, hb⟩; exact ⟨rfl, trans_below hx hb⟩)
           simp only [Act.put, List.setIfInBounds_toArray, List.set_cons_zero, List.set_cons_succ])
    refine Seq.last (fun wx hx => ?_)
    go_wp2
    go_ret
    exact ⟨by rw [EV.out]; rfl, hx⟩
theorem enters_lacks1 : Enters Tryz.prog 130 := enters_of Tryz.func130 (by kernel_rfl) rfl
/-- a new row of numbers -/
def GotLk (ys : List Int) (w : World) (e : Ending) (w' : World) : Prop := ∃ s : Sl3, e = .returned (.slice s.A s.n s.c) ∧ RSl (Rdr.int .i64) w' (fun b => w.heap.size ≤ b ∧ TyI w' b) s.A s.n s.c ys ∧ Below w.heap.size w w'
set_option maxRecDepth 40000 in
set_option maxHeartbeats 8000000 in
theorem lacks_any (N : NV) (U : NSl3) (q : Nat) (dev : Int) (L : LV) (s1 s2 s3 s4 : SlV) (w : World) (h : NRead w (allB w) N U) (hz : NvSz N) (hn : NetOk N) (hb : TBx w q 116 (netC U)) (hl : LRead w L s1 s2 s3 s4) (hT : L.tagged.length ≤ 300) :
    Calls Tryz.prog 75 #[.pointer (some ⟨q, 0, none⟩), .int .i64 dev, lineV L s1 s2 s3 s4] w (GotLk (lkL N dev L) w) := by
  have LA_ := Lib.hid (line_boxed ((w.alloc (.cells #[.pointer (some ⟨q, 0, none⟩)] 58)).alloc (.cells #[.int .i64 dev] 3)) L s1 s2 s3 s4 37)
  have UP := Lib.hid (fun (w' : World) (hb : Below w.heap.size w w') => h.up hb)
  have UL := Lib.hid (fun (w' : World) (hb : Below w.heap.size w w') => lread_below hl hb)
  have UB := Lib.hid (fun (w' : World) (hx : Below w.heap.size w w') => hb.below hx)
  have TL := Lib.hid hl.1.len
  have TT := Lib.hid hT
  have NZ := Lib.hid hz
  have NO := Lib.hid hn
  have hle1 := hl.1.le
  have hcap1 := hl.1.cap
  clear h hl hb hz hn hT
  rw [show lineV L s1 s2 s3 s4 = .agg #[.int .i64 L.row, .int .i64 L.kind, .string (str L.dev), .string (str L.port), .string (str L.peer), .string (str L.far), .string (str L.name), .int .u64 L.mac, .int .u32 L.addr, .int .i64 L.bits, .int .i64 L.vlan, .int .i64 L.num, .int .i64 L.cost, .slice s1.A s1.n s1.c, .slice s2.A s2.n s2.c, .slice s3.A s3.n s3.c, .slice s4.A s4.n s4.c] from rfl]
  go_enter Tryz.func75, Tryz.ntmps75
  go_upto_region 1 with fail
  obtain ⟨w1, hw1⟩ : ∃ w1, ((w.alloc (.cells #[.pointer (some ⟨q, 0, none⟩)] 58)).alloc (.cells #[.int .i64 dev] 3)).alloc (.cells #[.int .i64 L.row, .int .i64 L.kind, .string (str L.dev), .string (str L.port), .string (str L.peer), .string (str L.far), .string (str L.name), .int .u64 L.mac, .int .u32 L.addr, .int .i64 L.bits, .int .i64 L.vlan, .int .i64 L.num, .int .i64 L.cost, .slice s1.A s1.n s1.c, .slice s2.A s2.n s2.c, .slice s3.A s3.n s3.c, .slice s4.A s4.n s4.c] 37) = w1 := ⟨_, rfl⟩
  have B1 := Lib.hid (show Below w.heap.size w w1 by rw [← hw1]; exact (((Below.refl _ _).alloc (Nat.le_refl _) _).alloc (by simp) _).alloc (by simp; omega) _)
  have C1 := Lib.hid (show Cs w1 w.heap.size [.pointer (some ⟨q, 0, none⟩)] by rw [← hw1]; exact ((Cs.new w [.pointer (some ⟨q, 0, none⟩)] _).below ((Below.refl _ _).alloc (Nat.le_refl _) _)).below ((Below.refl _ _).alloc (Nat.le_refl _) _))
  have C2 := Lib.hid (show Cs w1 (w.heap.size + 1) [.int .i64 dev] by
    have := (Cs.new (w.alloc (.cells #[.pointer (some ⟨q, 0, none⟩)] 58)) [.int .i64 dev] 3).below ((Below.refl _ _).alloc (Nat.le_refl _) (.cells #[.int .i64 L.row, .int .i64 L.kind, .string (str L.dev), .string (str L.port), .string (str L.peer), .string (str L.far), .string (str L.name), .int .u64 L.mac, .int .u32 L.addr, .int .i64 L.bits, .int .i64 L.vlan, .int .i64 L.num, .int .i64 L.cost, .slice s1.A s1.n s1.c, .slice s2.A s2.n s2.c, .slice s3.A s3.n s3.c, .slice s4.A s4.n s4.c] 37))
    rw [show (w.alloc (.cells #[.pointer (some ⟨q, 0, none⟩)] 58)).heap.size = w.heap.size + 1 by simp] at this
    rw [← hw1]; exact this)
  have LB := Lib.hid (show BoxF w1 (w.heap.size + 2) 17 (lc L s1 s2 s3 s4) by
    have := LA_.out
    rw [show ((w.alloc (.cells #[.pointer (some ⟨q, 0, none⟩)] 58)).alloc (.cells #[.int .i64 dev] 3)).heap.size = w.heap.size + 2 by simp] at this
    rw [← hw1]; exact this)
  have ql1 : w.heap.size + 2 < w1.heap.size := by rw [← hw1]; simp
  rw [hw1]
  clear hw1 LA_
  have g10 : w1.cell? ⟨w.heap.size + 2, 10, none⟩ = some (.int .i64 L.vlan) := LB.out.cell 10 (by omega)
  have g13 : w1.cell? ⟨w.heap.size + 2, 13, none⟩ = some (.slice s1.A s1.n s1.c) := LB.out.cell 13 (by omega)
  have I1 := Lib.hid (UL.out _ B1.out).1
  go_upto_region 2 with (at_builtin; (refine wpList_ints (B := w1.heap.size) rfl (.tmp 10) (.tmp 12) 34 3 Tryz.underlying34 (Desc.of (by kernel_rfl)) rfl ⟨some ⟨w1.heap.size, 0, none⟩, 1, 1⟩ [L.vlan] (OwnI.lit .i64 3 w1 w1.heap.size [L.vlan] (Nat.le_refl _) (by simp)) s1.A s1.n s1.c L.tagged ?hy ?hn ?hB rfl rfl ?_); (case hy => exact I1.out.alloc _); (case hn => have := TL.out; have := TT.out; simp; omega); (case hB => simp); intro s8 w8 hown hgr hb; have OW8 := Lib.hid hown; have BW8 := Lib.hid (show Below w1.heap.size w1 w8 from ((Below.refl _ _).alloc (Nat.le_refl _) _).trans hb); clear hown hgr hb)
  have DF := Lib.hid (delf_any 130 #[.pointer (some ⟨w.heap.size, 0, none⟩), .pointer (some ⟨w.heap.size + 1, 0, none⟩)] enters_lacks1 w1.heap.size s8 _ w8 OW8.out (by simp) BW8.out.size (hasB N dev) (fun x w' hx => by
    have b9 := BW8.out.trans hx
    have bb := B1.out.trans (b9.mono B1.out.size)
    rw [show (#[Value.int .i64 x] ++ #[Value.pointer (some ⟨w.heap.size, 0, none⟩), Value.pointer (some ⟨w.heap.size + 1, 0, none⟩)] : Array Value) = #[.int .i64 x, .pointer (some ⟨w.heap.size, 0, none⟩), .pointer (some ⟨w.heap.size + 1, 0, none⟩)] from rfl]
    exact lacks1_any N U q w.heap.size (w.heap.size + 1) dev x w' (UP.out _ bb) NZ.out NO.out (UB.out _ bb) ((C1.out.below b9).1 0 _ rfl) ((C2.out.below b9).1 0 _ rfl)))
  rw [show [L.vlan] ++ L.tagged = L.vlan :: L.tagged from rfl, hasB_filter] at DF
  clear g10 g13
  go_wp2_with (go_at_call 129; (with_reducible refine DF.out.mono ?_); rintro e w9 ⟨m, rfl, hr, hb⟩; have R9 := Lib.hid hr; have X9 := Lib.hid hb; clear hr hb)
  go_ret
  exact ⟨⟨s8.A, m, s8.c⟩, rfl, R9.out.keep (fun _ _ => rfl) (fun b hb => ⟨Nat.le_trans B1.out.size hb.1, hb.2⟩), B1.out.trans ((BW8.out.trans X9.out).mono B1.out.size)⟩
end Go.Proofs.YthobolmedppneaaGreat

/- Package ports: does a device have an address? -/
namespace Go.Proofs.YthobolmedppneaaGreat
open Go.RowKit

theorem knows1_any (X : DevV) (m : Int) (q : Nat) (w : World) (c1 : w.cell? ⟨q, 0, none⟩ = some (.int .u64 m)) : Calls Tryz.prog 121 #[.agg #[.int .i64 X.row, .int .i64 X.prio, .string (str X.name), .int .u64 X.mac, .int .u32 X.vtep], .pointer (some ⟨q, 0, none⟩)] w fun e w' => e = .returned (.bool (decide (X.mac = m))) ∧ Below w.heap.size w w' := by
  have ql : q < w.heap.size := World.block_lt_of_cell? w _ c1
  obtain ⟨v, hv⟩ : ∃ v, (X.mac == m) = v := ⟨_, rfl⟩
  rw [show decide (X.mac = m) = v by rw [← hv]; by_cases g : X.mac = m <;> simp [g]]
  go_enter Tryz.func121, Tryz.ntmps121
  go_wp2
  go_ret
  exact ⟨by first | rfl | simp [hv] | (rw [← hv]; rfl), alloc_below _ _⟩
theorem enters_knows1 : Enters Tryz.prog 121 := enters_of Tryz.func121 (by kernel_rfl) rfl
theorem has_dev (A : Option Addr) (n c : Nat) (g : Value) (V : Int) (w : World)
    (IX : Calls Tryz.prog 76 #[.slice A n c, g] w fun e w2 => e = .returned (.int .i64 V) ∧ Below w.heap.size w w2) :
    Calls Tryz.prog 120 #[.slice A n c, g] w fun e w' => e = .returned (.bool (decide (0 ≤ V))) ∧ Below w.heap.size w w' := by
  have IX := Lib.hid IX
  go_enter Tryz.func120, Tryz.ntmps120
  go_wp2_with (go_at_call 76; (with_reducible refine IX.out.mono ?_); rintro e wi ⟨rfl, hb⟩; have X2 := Lib.hid hb; clear hb)
  go_ret
  exact ⟨rfl, X2.out⟩
/-- is there a device of the address? -/
def macIn (N : NV) (m : Int) : Bool := N.devices.any fun X => decide (X.mac = m)
/-- the first of them -/
def mcK : List DevV → Int → Nat → Int
  | [], _, _ => -1
  | d :: r, m, k => if d.mac = m then (k : Int) else mcK r m (k + 1)
theorem mcK_fst (m : Int) : ∀ (xs : List DevV) (k n : Nat), n = xs.length → (∃ j, j < n ∧ mcK xs m k = ((k + j : Nat) : Int) ∧ (xs.getD j DevV.zero).mac = m ∧ ∀ i, i < j → ¬ (xs.getD i DevV.zero).mac = m) ∨ (mcK xs m k = -1 ∧ ∀ i, i < n → ¬ (xs.getD i DevV.zero).mac = m)
  | [], k, n, h => .inr ⟨rfl, fun i hi => absurd hi (by simp at h; omega)⟩
  | d :: r, k, n, h => by
    by_cases hd : d.mac = m
    · exact .inl ⟨0, by simp at h; omega, by rw [mcK, if_pos hd]; simp, hd, fun i hi => absurd hi (by omega)⟩
    · rcases mcK_fst m r (k + 1) r.length rfl with ⟨j, h1, h2, h3, h4⟩ | ⟨h1, h2⟩
      · refine .inl ⟨j + 1, by simp at h; omega, by rw [mcK, if_neg hd, h2]; congr 1; omega, by simpa using h3, fun i hi => ?_⟩
        match i with
        | 0 => simpa using hd
        | i + 1 => simpa using h4 i (by omega)
      · refine .inr ⟨by rw [mcK, if_neg hd, h1], fun i hi => ?_⟩
        match i with
        | 0 => simpa using hd
        | i + 1 => simpa using h2 i (by simp at h; omega)
theorem macIn_iff (N : NV) (m : Int) : decide (0 ≤ mcK N.devices m 0) = macIn N m := by
  unfold macIn
  rcases mcK_fst m N.devices 0 _ rfl with ⟨j, h1, h2, h3, _⟩ | ⟨h1, h2⟩
  · rw [h2, decide_eq_true (by omega)]
    symm
    rw [List.any_eq_true]
    exact ⟨N.devices.getD j DevV.zero, by simp [List.getD, h1], decide_eq_true h3⟩
  · rw [h1, decide_eq_false (by omega)]
    symm
    rw [Bool.eq_false_iff]
    intro g
    rw [List.any_eq_true] at g
    obtain ⟨X, hX, hp⟩ := g
    obtain ⟨k, hk, rfl⟩ := List.getElem_of_mem hX
    have := h2 k hk
    simp [List.getD, hk] at this
    exact this (of_decide_eq_true hp)
set_option maxRecDepth 20000 in
theorem knows_any (N : NV) (U : NSl3) (q : Nat) (m : Int) (w : World) (h : NRead w (allB w) N U) (hb : TBx w q 116 (netC U)) : Calls Tryz.prog 72 #[.pointer (some ⟨q, 0, none⟩), .int .u64 m] w fun e w' => e = .returned (.bool (macIn N m)) ∧ Below w.heap.size w w' := by
  have c0 := hb.cell 0 _ rfl
  have ql := hb.lt
  obtain ⟨W, hW⟩ : ∃ W, w.alloc (.cells #[.int .u64 m] 32) = W := ⟨_, rfl⟩
  have BW : Below w.heap.size w W := by rw [← hW]; exact alloc_below _ _
  have CM := Lib.hid (show Cs W w.heap.size [.int .u64 m] by rw [← hW]; exact Cs.new w [.int .u64 m] _)
  have HF := Lib.hid (has_dev U.dv.A U.dv.n U.dv.c (.func (.func 121) #[] #[.pointer (some ⟨w.heap.size, 0, none⟩)]) (mcK N.devices m 0) W (idx_dev 121 #[.pointer (some ⟨w.heap.size, 0, none⟩)] enters_knows1 U.dv.A U.dv.n U.dv.c N.devices W (up_rsl h.dv BW) (fun k => decide ((N.devices.getD k DevV.zero).mac = m)) (fun k w2 hk hb2 => by
      rw [app1]
      exact knows1_any _ m _ w2 ((CM.out.below hb2).1 0 _ rfl)) _ (by
      rcases mcK_fst m N.devices 0 U.dv.n h.dv.len.symm with ⟨j, h1, h2, h3, h4⟩ | ⟨h1, h2⟩
      · exact .inl ⟨j, h1, by rw [h2]; congr 1; omega, decide_eq_true h3, fun i hi => decide_eq_false (h4 i hi)⟩
      · exact .inr ⟨h1, fun i hi => decide_eq_false (h2 i hi)⟩)))
  rw [macIn_iff] at HF
  generalize macIn N m = V at *
  have B0 := Lib.hid BW
  subst hW
  clear h hb BW
  go_enter Tryz.func72, Tryz.ntmps72
  go_wp2_with (go_at_call 120; (with_reducible refine HF.out.mono ?_); rintro e wi ⟨rfl, hb⟩; have X2 := Lib.hid (trans_below B0.out hb); clear hb)
  go_ret
  exact ⟨rfl, X2.out⟩
end Go.Proofs.YthobolmedppneaaGreat

