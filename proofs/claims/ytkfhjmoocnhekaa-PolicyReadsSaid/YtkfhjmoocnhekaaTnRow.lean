/- The contract of palingref14.Row: which tenant a row's words are, or why none. -/
import Derived.Test.YtkfhjmoocnhekaaTnDat
import Derived.Test.YtkfhjmoocnhekaaSeqP
import Derived.Maps.AppendAt
namespace Go.Proofs.Ytkfhjmoocnhekaa
open Go.RowKit

/-- append of one text, that was just laid out, onto a row of the call's own -/
theorem run_tapp {w : World} {B : Nat} {v : Value} {ps : List (List UInt8)} (p : List UInt8) (hown : w.ownsRow B 9 1 v ps.length (txts ps)) (hn : ps.length ≤ 100000) (hB : B ≤ w.heap.size) :
    ∃ v' w', (Builtin.append_ #[38, 38] 38 #[v, .slice (some ⟨w.heap.size, 0, none⟩) 1 1]).run Try.prog (w.alloc (.cells #[.string (str p)] 9)) = .ok v' w' ∧ w'.ownsRow B 9 1 v' (ps.length + 1) (txts (ps ++ [p])) ∧
      (w.alloc (.cells #[.string (str p)] 9)).grownBy w' v.ownBlock ∧ (v'.ownBlock = v.ownBlock ∨ v'.ownBlock = some (w.alloc (.cells #[.string (str p)] 9)).heap.size) := by
  obtain ⟨i, hi, hz, h1, h2⟩ := info_parts Try.info9
  obtain ⟨v', w', hr, h3, h4, _, h6⟩ := run_append_own_at (P := Try.prog) (w.alloc (.cells #[.string (str p)] 9)) B 38 38 9 i _ 1 16 Try.underlying38 hi hz h1 h2 rfl (by decide) v ps.length (txts ps) (hown.alloc _) ⟨w.heap.size, 0, none⟩ 1 1 [.string (str p)] rfl (cell_one_new w _ _) (by simp [Value.oneCell']) (by unfold maxLen; omega) (by omega) (by simp; omega)
  exact ⟨v', w', hr, by rw [txts_app]; exact h3, h4, h6⟩
theorem exec_tapp {ρ : Operand → Value} {o : Oper} {s x : Operand} {w w' : World} {v u v' : Value} (ho : o.op = .call { callee := .builtin .append, args := #[s, x], argTypes := #[38, 38] }) (hty : o.type = 38) (hs : ρ s = v) (hx : ρ x = u)
    (hr : (Builtin.append_ #[38, 38] 38 #[v, u]).run Try.prog w = .ok v' w') : (execOp ρ o).run Try.prog w = .ok (.value v') w' := by
  unfold execOp
  simp only [ho, hty, resolve, invoke, builtin, Sem.run_bind, Sem.run_pure, Result.andThen_ok, List.map_toArray, List.map_cons, List.map_nil, hs, hx, hr]
/-- a tenant in a box of four cells -/
structure TBox (w : World) (q : Nat) (r : Int) (nm : List UInt8) (v1 v2 : Value) : Prop where
  c0 : w.cell? ⟨q, 0, none⟩ = some (.int .i64 r)
  c1 : w.cell? ⟨q, 1, none⟩ = some (.string (str nm))
  c2 : w.cell? ⟨q, 2, none⟩ = some v1
  c3 : w.cell? ⟨q, 3, none⟩ = some v2
  fz : ∀ o, w.frozen? ⟨q, o, none⟩ = false
section
variable {w w' : World} {q : Nat} {r : Int} {nm : List UInt8} {v1 v2 : Value}
theorem TBox.lt (h : TBox w q r nm v1 v2) : q < w.heap.size := World.block_lt_of_cell? w _ h.c0
theorem TBox.same (h : TBox w q r nm v1 v2) (e : w'.heap[q]? = w.heap[q]?) : TBox w' q r nm v1 v2 :=
  ⟨(World.cell?_of_block (w := w) (a := ⟨q, 0, none⟩) e).trans h.c0, (World.cell?_of_block (w := w) (a := ⟨q, 1, none⟩) e).trans h.c1, (World.cell?_of_block (w := w) (a := ⟨q, 2, none⟩) e).trans h.c2, (World.cell?_of_block (w := w) (a := ⟨q, 3, none⟩) e).trans h.c3, fun o => (World.frozen?_of_block (w := w) (a := ⟨q, o, none⟩) e).trans (h.fz o)⟩
theorem other_off (w : World) (q i j : Nat) (x u : Value) (hp : i ≠ j) (h : w.cell? ⟨q, j, none⟩ = some u) : (w.setCell ⟨q, i, none⟩ x).cell? ⟨q, j, none⟩ = some u := by
  rw [World.cell?_setCell_other _ _ _ _ (by intro e; injection e with _ e2; exact hp e2)]
  exact h
theorem TBox.set2 (h : TBox w q r nm v1 v2) (x : Value) : TBox (w.setCell ⟨q, 2, none⟩ x) q r nm x v2 :=
  ⟨other_off _ _ _ _ _ _ (by decide) h.c0, other_off _ _ _ _ _ _ (by decide) h.c1, World.cell?_setCell_same _ _ _ h.c2, other_off _ _ _ _ _ _ (by decide) h.c3, fun o => (World.frozen?_setCell _ _ _ _).trans (h.fz o)⟩
theorem TBox.set3 (h : TBox w q r nm v1 v2) (x : Value) : TBox (w.setCell ⟨q, 3, none⟩ x) q r nm v1 x :=
  ⟨other_off _ _ _ _ _ _ (by decide) h.c0, other_off _ _ _ _ _ _ (by decide) h.c1, other_off _ _ _ _ _ _ (by decide) h.c2, World.cell?_setCell_same _ _ _ h.c3, fun o => (World.frozen?_setCell _ _ _ _).trans (h.fz o)⟩
end
theorem own_same {w w' : World} {B : Nat} {e : TypeId} {v : Value} {n : Nat} {xs : List Value} (h : w.ownsRow B e 1 v n xs) (hb : ∀ g, v.ownBlock = some g → w'.heap[g]? = w.heap[g]?) : w'.ownsRow B e 1 v n xs := by
  refine ⟨h.1, ?_⟩
  rcases h.2 with h3 | ⟨g, cap, cur, hv, hB, hh, hnc, hm, hsz, ht⟩
  · exact .inl h3
  · exact .inr ⟨g, cap, cur, hv, hB, by rw [hb g (by rw [hv]; rfl)]; exact hh, hnc, hm, hsz, ht⟩
/-- a tenant under way: its box at q, its lists in rows of the call's own, behind q, apart from each other; ahead of q all is as it was -/
structure TnI (wS : World) (q : Nat) (r : Int) (nm : List UInt8) (ds ps : List (List UInt8)) (v1 v2 : Value) (w : World) : Prop where
  box : TBox w q r nm v1 v2
  o1 : w.ownsRow (q + 1) 9 1 v1 ds.length (txts ds)
  o2 : w.ownsRow (q + 1) 9 1 v2 ps.length (txts ps)
  ne : ∀ g, v1.ownBlock = some g → v2.ownBlock ≠ some g
  bel : Below q wS w
  sz : q + 1 ≤ w.heap.size
theorem TnI.drew {wS w : World} {q : Nat} {r : Int} {nm : List UInt8} {ds ps : List (List UInt8)} {v1 v2 : Value} (h : TnI wS q r nm ds ps v1 v2 w) : TnI wS q r nm ds ps v1 v2 w.drew := ⟨⟨h.box.c0, h.box.c1, h.box.c2, h.box.c3, h.box.fz⟩, h.o1, h.o2, h.ne, h.bel.drew, h.sz⟩
theorem heap_new {w : World} (o : Obj) {g : Nat} (h : g < w.heap.size) : (w.alloc o).heap[g]? = w.heap[g]? := Below.heap_alloc w o g h
section
variable {w0 w w2 : World} {q : Nat} {r : Int} {nm : List UInt8} {ds ps : List (List UInt8)} {v1 v2 v' : Value} {p : List UInt8} {T : TypeId}
/-- behind an append onto the first list, and its store -/
theorem TnI.app1 (h : TnI w0 q r nm ds ps v1 v2 w) (h3 : w2.ownsRow (q + 1) 9 1 v' (ds.length + 1) (txts (ds ++ [p]))) (h4 : (w.alloc (.cells #[.string (str p)] T)).grownBy w2 v1.ownBlock) (h6 : v'.ownBlock = v1.ownBlock ∨ v'.ownBlock = some (w.alloc (.cells #[.string (str p)] T)).heap.size) :
    TBox w2 q r nm v1 v2 ∧ TnI w0 q r nm (ds ++ [p]) ps v' v2 (w2.setCell ⟨q, 2, none⟩ v') := by
  have hql := h.box.lt
  have hq1 : v1.ownBlock ≠ some q := fun e => by have := (h.o1.lt q e).1; omega
  have e0 : w2.heap[q]? = w.heap[q]? := by
    rw [h4.block q (by simp; omega) (fun e => hq1 e.symm)]
    exact heap_new _ hql
  have hb := h.box.same e0
  refine ⟨hb, ⟨hb.set2 v', ?_, ?_, ?_, ?_, ?_⟩⟩
  · have : w2.ownsRow (q + 1) 9 1 v' (ds ++ [p]).length (txts (ds ++ [p])) := by rw [List.length_append]; exact h3
    refine own_same this (fun g hg => Below.heap_setCell w2 ⟨q, 2, none⟩ v' g (by have := (this.lt g hg).1; show g ≠ q; omega))
  · refine own_same h.o2 (fun g hg => ?_)
    have hg1 := h.o2.lt g hg
    rw [Below.heap_setCell w2 ⟨q, 2, none⟩ v' g (by show g ≠ q; omega), h4.block g (by simp; omega) (fun e => h.ne g e.symm hg)]
    exact heap_new _ hg1.2
  · intro g hg hg2
    have hg1 := h.o2.lt g hg2
    rcases h6 with h6 | h6
    · exact h.ne g (h6 ▸ hg) hg2
    · rw [h6] at hg
      injection hg with hg
      simp at hg
      omega
  · exact ((h.bel.alloc (by have := h.sz; omega) _).grown h4 (by simp; have := h.sz; omega) (fun k hk => by have := (h.o1.lt k hk).1; omega)).setCell (p := ⟨q, 2, none⟩) (Nat.le_refl _) v'
  · have := h4.size
    simp at this ⊢
    have := h.sz
    omega
/-- behind an append onto the second list, and its store -/
theorem TnI.app2 (h : TnI w0 q r nm ds ps v1 v2 w) (h3 : w2.ownsRow (q + 1) 9 1 v' (ps.length + 1) (txts (ps ++ [p]))) (h4 : (w.alloc (.cells #[.string (str p)] T)).grownBy w2 v2.ownBlock) (h6 : v'.ownBlock = v2.ownBlock ∨ v'.ownBlock = some (w.alloc (.cells #[.string (str p)] T)).heap.size) :
    TBox w2 q r nm v1 v2 ∧ TnI w0 q r nm ds (ps ++ [p]) v1 v' (w2.setCell ⟨q, 3, none⟩ v') := by
  have hql := h.box.lt
  have hq1 : v2.ownBlock ≠ some q := fun e => by have := (h.o2.lt q e).1; omega
  have e0 : w2.heap[q]? = w.heap[q]? := by
    rw [h4.block q (by simp; omega) (fun e => hq1 e.symm)]
    exact heap_new _ hql
  have hb := h.box.same e0
  refine ⟨hb, ⟨hb.set3 v', ?_, ?_, ?_, ?_, ?_⟩⟩
  · refine own_same h.o1 (fun g hg => ?_)
    have hg1 := h.o1.lt g hg
    rw [Below.heap_setCell w2 ⟨q, 3, none⟩ v' g (by show g ≠ q; omega), h4.block g (by simp; omega) (fun e => h.ne g hg e.symm)]
    exact heap_new _ hg1.2
  · have : w2.ownsRow (q + 1) 9 1 v' (ps ++ [p]).length (txts (ps ++ [p])) := by rw [List.length_append]; exact h3
    refine own_same this (fun g hg => Below.heap_setCell w2 ⟨q, 3, none⟩ v' g (by have := (this.lt g hg).1; show g ≠ q; omega))
  · intro g hg hg2
    have hg1 := h.o1.lt g hg
    rcases h6 with h6 | h6
    · exact h.ne g hg (h6 ▸ hg2)
    · rw [h6] at hg2
      injection hg2 with hg2
      simp at hg2
      omega
  · exact ((h.bel.alloc (by have := h.sz; omega) _).grown h4 (by simp; have := h.sz; omega) (fun k hk => by have := (h.o2.lt k hk).1; omega)).setCell (p := ⟨q, 3, none⟩) (Nat.le_refl _) v'
  · have := h4.size
    simp at this ⊢
    have := h.sz
    omega
end
/-- a tenant and a number, as a call returns them; the tenant's lists lie behind the world of the call -/
def GotTn (w : World) (T : TV) (E : Int) (e : Ending) (w' : World) : Prop :=
  ∃ s1 s2, e = .returned (.tuple #[tenV T s1 s2, .int .i64 E]) ∧ tenR.rd w' (fun b => w.heap.size ≤ b ∧ b < w'.heap.size) (tenC T s1 s2) T ∧ Below w.heap.size w w'
theorem ten_zero (w : World) (F : Nat → Prop) : tenR.rd w F (tenC TV.zero SlT.nil SlT.nil) TV.zero := ⟨SlT.nil, SlT.nil, rfl, RSl.nil, RSl.nil⟩
set_option maxRecDepth 20000 in
set_option maxHeartbeats 2000000 in
theorem refRow_form (A : Option Addr) (n c : Nat) (ws : List (List UInt8)) (row : Int) (w : World) (h : SSl w A n c ws) (hn : 1 ≤ n) (hb : ws.getD 0 [] ≠ sTen ∨ ws.length < 3 ∨ 18 < ws.length) :
    Calls Try.prog 21 #[.slice A n c, .int .i64 row] w (GotTn w TV.zero 22) := by
  obtain ⟨b0, o0, rfl, hb0, hc0⟩ := h.at_ hn
  have c0 := hc0 0 hn
  rw [Nat.add_zero] at c0
  have hle := h.le
  have hcap := h.cap
  have hl := h.len
  rw [hl] at hb
  generalize ws.getD 0 [] = p0 at *
  clear hc0 h
  have fin : ∀ w', w' = w.alloc (.cells #[.int .i64 0, .string ⟨#[]⟩, .slice none 0 0, .slice none 0 0] 40) → GotTn w TV.zero 22 (.returned (.tuple #[tenV TV.zero SlT.nil SlT.nil, .int .i64 22])) w' := fun w' e => ⟨SlT.nil, SlT.nil, rfl, ten_zero _ _, by rw [e]; exact (Below.refl _ _).alloc (Nat.le_refl _) _⟩
  have i0 : (0 : Int) < (n : Int) := by omega
  by_cases e0 : p0 = sTen
  · have d0 : (p0 == [116, 101, 110, 97, 110, 116]) = true := by rw [e0]; rfl
    by_cases e1 : n < 3
    · have i1 : (n : Int) < 3 := by omega
      clear hb e0
      go_enter Try.func21, Try.ntmps21
      go_wp2
      exact bodyPost_ret (v := .tuple #[tenV TV.zero SlT.nil SlT.nil, .int .i64 22]) (by simp [results, Try.results21, go_sem, tenV, TV.zero, SlT.nil, str]) rfl (fin _ rfl)
    · have i1 : ¬ (n : Int) < 3 := by omega
      have i2 : (18 : Int) < (n : Int) := by
        rcases hb with hb | hb | hb
        · exact absurd e0 hb
        · omega
        · omega
      clear hb e0
      go_enter Try.func21, Try.ntmps21
      go_wp2
      exact bodyPost_ret (v := .tuple #[tenV TV.zero SlT.nil SlT.nil, .int .i64 22]) (by simp [results, Try.results21, go_sem, tenV, TV.zero, SlT.nil, str]) rfl (fin _ rfl)
  · have d0 : (p0 == [116, 101, 110, 97, 110, 116]) = false := by rw [beq_eq_false_iff_ne]; exact e0
    clear hb e0
    go_enter Try.func21, Try.ntmps21
    go_wp2
    exact bodyPost_ret (v := .tuple #[tenV TV.zero SlT.nil SlT.nil, .int .i64 22]) (by simp [results, Try.results21, go_sem, tenV, TV.zero, SlT.nil, str]) rfl (fin _ rfl)
/-- Row's words are a tenant's but for a name -/
structure RowOk (n : Nat) (ws : List (List UInt8)) : Prop where
  first : ws.getD 0 [] = sTen
  lo : 3 ≤ n
  hi : n ≤ 18
set_option maxRecDepth 20000 in
set_option maxHeartbeats 2000000 in
theorem refRow_name (A : Option Addr) (n c : Nat) (ws : List (List UInt8)) (row : Int) (w : World) (h : SSl w A n c ws) (hk : RowOk n ws) (hs : ∀ p ∈ ws, p.length ≤ 1000000) (hb : nwB (ws.getD 1 []) = false) :
    Calls Try.prog 21 #[.slice A n c, .int .i64 row] w (GotTn w TV.zero 20) := by
  have hlo := hk.lo
  have hhi := hk.hi
  obtain ⟨b0, o0, rfl, hb0, hc0⟩ := h.at_ (by omega)
  have c0 := hc0 0 (by omega)
  have c1 := hc0 1 (by omega)
  rw [Nat.add_zero, hk.first] at c0
  have hle := h.le
  have hcap := h.cap
  have hl := h.len
  have hp1 : (ws.getD 1 []).length ≤ 1000000 := hs _ (by
    have : 1 < ws.length := by omega
    simp [List.getD, List.getElem?_eq_getElem this])
  generalize ws.getD 1 [] = p1 at *
  have NM := Lib.hid (fun w => refName_any (str p1) w (by rw [str_size]; unfold maxLen; omega) false ⟨fun e => (by cases e), fun e => by rw [(nwB_iff p1).2 e] at hb; cases hb⟩)
  have fin : ∀ w', Below w.heap.size w w' → GotTn w TV.zero 20 (.returned (.tuple #[tenV TV.zero SlT.nil SlT.nil, .int .i64 20])) w' := fun w' e => ⟨SlT.nil, SlT.nil, rfl, ten_zero _ _, e⟩
  have d0 : (sTen == [116, 101, 110, 97, 110, 116]) = true := rfl
  have i1 : ¬ (n : Int) < 3 := by omega
  have i2 : ¬ (18 : Int) < (n : Int) := by omega
  have i3 : (1 : Int) < (n : Int) := by omega
  have i4 : (0 : Int) < (n : Int) := by omega
  clear hc0 h hb hs hp1 hk
  go_enter Try.func21, Try.ntmps21
  go_wp2_with (go_at_call 34; (with_reducible refine (NM.out _).mono ?_); rintro e w1 ⟨rfl, rfl⟩)
  exact bodyPost_ret (v := .tuple #[tenV TV.zero SlT.nil SlT.nil, .int .i64 20]) (by simp [results, Try.results21, go_sem, tenV, TV.zero, SlT.nil, str]) rfl (fin _ (two_alloc w _ _))
theorem TBox.put4 {w : World} {q : Nat} {r : Int} {nm : List UInt8} {v1 v2 : Value} (h : TBox w q r nm v1 v2) (r' : Int) (nm' : List UInt8) (x y : Value) : TBox ((((w.setCell ⟨q, 0, none⟩ (.int .i64 r')).setCell ⟨q, 1, none⟩ (.string (str nm'))).setCell ⟨q, 2, none⟩ x).setCell ⟨q, 3, none⟩ y) q r' nm' x y := by
  have a0 : TBox (w.setCell ⟨q, 0, none⟩ (.int .i64 r')) q r' nm v1 v2 := ⟨World.cell?_setCell_same _ _ _ h.c0, other_off _ _ _ _ _ _ (by decide) h.c1, other_off _ _ _ _ _ _ (by decide) h.c2, other_off _ _ _ _ _ _ (by decide) h.c3, fun o => (World.frozen?_setCell _ _ _ _).trans (h.fz o)⟩
  have a1 : TBox ((w.setCell ⟨q, 0, none⟩ (.int .i64 r')).setCell ⟨q, 1, none⟩ (.string (str nm'))) q r' nm' v1 v2 := ⟨other_off _ _ _ _ _ _ (by decide) a0.c0, World.cell?_setCell_same _ _ _ a0.c1, other_off _ _ _ _ _ _ (by decide) a0.c2, other_off _ _ _ _ _ _ (by decide) a0.c3, fun o => (World.frozen?_setCell _ _ _ _).trans (a0.fz o)⟩
  exact (a1.set2 x).set3 y
theorem tn_ret (tmps : Array Value) (W : World) (T : TV) (s1 s2 : SlT) (E : Int) (q : Nat) (h4 : tmps[4]?.getD undef = .pointer (some ⟨q, 0, none⟩)) (h5 : tmps[5]?.getD undef = .int .i64 E) (hb : TBox W q T.row T.name (.slice s1.A s1.n s1.c) (.slice s2.A s2.n s2.c)) :
    (results Try.f21 tmps).run Try.prog W = .ok (.tuple #[tenV T s1 s2, .int .i64 E]) W := by
  have t0 := hb.c0
  have t1 := hb.c1
  have t2 := hb.c2
  have t3 := hb.c3
  clear hb
  simp [results, Try.results21, go_sem, h4, h5, t0, t1, t2, t3, tenV]
theorem tn_shape {w : World} {B : Nat} {e : TypeId} {v : Value} {n : Nat} {xs : List Value} (h : w.ownsRow B e 1 v n xs) : ∃ A m c, v = .slice A m c := by
  rcases h.2 with ⟨h3, _⟩ | ⟨g, cap, cur, hv, _⟩
  · exact ⟨_, _, _, h3⟩
  · exact ⟨_, _, _, hv⟩
theorem tn_shape2 {w : World} {B : Nat} {e : TypeId} {v : Value} {n : Nat} {xs : List Value} (h : w.ownsRow B e 1 v n xs) : ∃ A c, v = .slice A n c := by
  rcases h.2 with ⟨h3, h4⟩ | ⟨g, cap, cur, hv, _⟩
  · exact ⟨_, _, by rw [h4]; exact h3⟩
  · exact ⟨_, _, hv⟩
/-- a row of the call's own reads as its texts -/
theorem own_rsl {w : World} {B : Nat} {e : TypeId} {A : Option Addr} {n c : Nat} {ps : List (List UInt8)} (h : w.ownsRow B e 1 (.slice A n c) n (txts ps)) (F : Nat → Prop) (hF : ∀ g, (Value.slice A n c).ownBlock = some g → F g) : RSl Rdr.str_ w F A n c ps :=
  rsl_of (SSl.of_own h) (fun e => by
    subst e
    rcases h.2 with ⟨hv, _⟩ | ⟨g, cap, cur, hv, _⟩
    · injection hv
    · injection hv with e1; cases e1) F (fun ad e _ => hF _ (by rw [e]; rfl))
/-- four worlds, one behind the other -/
def PhS (a b c d : World) (m : Nat) (wx : World) : Prop := (m = 0 ∧ wx = a) ∨ (m = 1 ∧ wx = b) ∨ (m = 2 ∧ wx = c) ∨ (3 ≤ m ∧ wx = d)
theorem PhS.p0 {a b c d wx : World} (h : PhS a b c d 0 wx) : wx = a := by
  rcases h with ⟨_, h⟩ | ⟨h, _⟩ | ⟨h, _⟩ | ⟨h, _⟩
  · exact h
  · cases h
  · cases h
  · omega
theorem PhS.p1 {a b c d wx : World} (h : PhS a b c d 1 wx) : wx = b := by
  rcases h with ⟨h, _⟩ | ⟨_, h⟩ | ⟨h, _⟩ | ⟨h, _⟩
  · cases h
  · exact h
  · cases h
  · omega
theorem PhS.p2 {a b c d wx : World} (h : PhS a b c d 2 wx) : wx = c := by
  rcases h with ⟨h, _⟩ | ⟨h, _⟩ | ⟨_, h⟩ | ⟨h, _⟩
  · cases h
  · cases h
  · exact h
  · omega
theorem PhS.p3 {a b c d wx : World} (h : PhS a b c d 3 wx) : wx = d := by
  rcases h with ⟨h, _⟩ | ⟨h, _⟩ | ⟨h, _⟩ | ⟨_, h⟩
  · cases h
  · cases h
  · cases h
  · exact h
theorem PhS.all {a b c d wx : World} {m : Nat} {p : Addr} {v : Value} (h : PhS a b c d m wx) (h0 : a.cell? p = some v) (h1 : b.cell? p = some v) (h2 : c.cell? p = some v) (h3 : d.cell? p = some v) : wx.cell? p = some v := by
  rcases h with ⟨_, rfl⟩ | ⟨_, rfl⟩ | ⟨_, rfl⟩ | ⟨_, rfl⟩ <;> assumption
theorem PhS.two {a b c d wx : World} {m : Nat} {p : Addr} {v : Value} (h : PhS a b c d m wx) (hm : m ≤ 1) (h0 : a.cell? p = some v) (h1 : b.cell? p = some v) : wx.cell? p = some v := by
  rcases h with ⟨_, rfl⟩ | ⟨_, rfl⟩ | ⟨e, _⟩ | ⟨e, _⟩
  · exact h0
  · exact h1
  · omega
  · omega
/-- the words that were gone through: from the third on, up to number k -/
def prW (ws : List (List UInt8)) (k : Nat) : List (List UInt8) := (ws.take k).drop 2
theorem prW_next {ws : List (List UInt8)} {k : Nat} (h2 : 2 ≤ k) (hk : k < ws.length) : prW ws (k + 1) = prW ws k ++ [ws.getD k []] := by
  unfold prW
  rw [List.take_succ_eq_append_getElem hk, List.drop_append_of_le_length (by rw [List.length_take]; omega)]
  simp [List.getD, hk]
theorem prW_all {ws : List (List UInt8)} {k : Nat} (h : ws.length ≤ k) : prW ws k = ws.drop 2 := by unfold prW; rw [List.take_of_length_le h]
theorem prW_len {ws : List (List UInt8)} {k : Nat} : (prW ws k).length ≤ k := by unfold prW; rw [List.length_drop, List.length_take]; omega
theorem rn_bad {ws : List (List UInt8)} {k n : Nat} (hk : RowOk n ws) (hn : ws.length = n) (h1 : nwB (ws.getD 1 []) = true) (h2 : 2 ≤ k) (hkn : k < n) (hb : pwB (ws.getD k []) = false) : rnE ws = 20 := by
  unfold rnE
  rw [if_neg (by intro h; rcases h with h | h | h; exact h hk.first; (have := hk.lo; omega); (have := hk.hi; omega)), if_neg (by rw [h1]; decide)]
  rw [if_neg]
  intro h
  have hm : ws.getD k [] ∈ ws.drop 2 := by
    have e : ws.getD k [] = (ws.drop 2)[k - 2]'(by rw [List.length_drop]; omega) := by
      rw [List.getElem_drop]
      have hl : k < ws.length := by omega
      simp [List.getD, hl, show 2 + (k - 2) = k by omega]
    rw [e]
    exact List.getElem_mem _
  have := List.all_eq_true.1 h _ hm
  rw [hb] at this
  cases this
theorem rn_good {ws : List (List UInt8)} {n : Nat} (row : Int) (hk : RowOk n ws) (hn : ws.length = n) (h1 : nwB (ws.getD 1 []) = true) (h2 : (ws.drop 2).all pwB = true) : rnE ws = 0 ∧ rnT ws row = ⟨row, ws.getD 1 [], (ws.drop 2).map (headC 46), (ws.drop 2).map (tailC 46)⟩ := by
  have e : rnE ws = 0 := by
    unfold rnE
    rw [if_neg (by intro h; rcases h with h | h | h; exact h hk.first; (have := hk.lo; omega); (have := hk.hi; omega)), if_neg (by rw [h1]; decide), if_pos h2]
  exact ⟨e, by unfold rnT; rw [if_pos e]⟩
theorem pwB_cases (p : List UInt8) : (hasC 46 p = false ∧ headC 46 p = p) ∨ (hasC 46 p = true ∧ (headC 46 p).length < p.length ∧ headC 46 p = p.take (headC 46 p).length ∧ tailC 46 p = p.drop ((headC 46 p).length + 1)) := by
  rcases index_cases p 46 with ⟨_, h1, h2, _⟩ | ⟨i, _, h1, h2, h3, h4⟩
  · left; exact ⟨decide_eq_false h1, h2⟩
  · right
    have e : (headC 46 p).length = i := by rw [h3, List.length_take]; omega
    exact ⟨decide_eq_true h2, by omega, by rw [e]; exact h3, by rw [e]; exact h4⟩
theorem name_of (s : List UInt8) (hs : s.length ≤ 1000000) (b : Bool) (hb : nwB s = b) (w : World) : Calls Try.prog 34 #[.string (str s)] w fun e w' => e = .returned (.bool b) ∧ w = w' := by
  refine refName_any (str s) w (by rw [str_size]; unfold maxLen; omega) b ?_
  rw [← hb]
  exact nwB_iff s
set_option maxRecDepth 20000 in
set_option maxHeartbeats 8000000 in
theorem refRow_run (A : Option Addr) (n c : Nat) (ws : List (List UInt8)) (row : Int) (w : World) (h : SSl w A n c ws) (hk : RowOk n ws) (hs : ∀ p ∈ ws, p.length ≤ 1000000) (h1 : nwB (ws.getD 1 []) = true) :
    Calls Try.prog 21 #[.slice A n c, .int .i64 row] w (GotTn w (rnT ws row) (rnE ws)) := by
  have hlo := hk.lo
  have hhi := hk.hi
  obtain ⟨b0, o0, rfl, hb0, hc0⟩ := h.at_ (by omega)
  have c0 := hc0 0 (by omega)
  have c1 := hc0 1 (by omega)
  rw [Nat.add_zero, hk.first] at c0
  have hle := h.le
  have hcap := h.cap
  have HL := Lib.hid h.len
  have HK := Lib.hid hk
  have H1 := Lib.hid h1
  have HS := Lib.hid hs
  have HC := Lib.hid hc0
  obtain ⟨p1, hp1⟩ : ∃ p1, ws.getD 1 [] = p1 := ⟨_, rfl⟩
  have HP1 := Lib.hid hp1
  have hp1l : p1.length ≤ 1000000 := by
    rw [← hp1]
    refine hs _ ?_
    have : 1 < ws.length := by rw [h.len]; omega
    simp [List.getD, List.getElem?_eq_getElem this]
  rw [hp1] at c1 h1
  have NM := Lib.hid (name_of p1 hp1l true h1)
  have d0 : (sTen == [116, 101, 110, 97, 110, 116]) = true := rfl
  have i1 : ¬ (n : Int) < 3 := by omega
  have i2 : ¬ (18 : Int) < (n : Int) := by omega
  have i3 : (1 : Int) < (n : Int) := by omega
  have i4 : (0 : Int) < (n : Int) := by omega
  clear hc0 h hs hp1 hk h1 hp1l
  go_enter Try.func21, Try.ntmps21
  go_wp2_with (go_at_call 34; (with_reducible refine (NM.out _).mono ?_); rintro e w1 ⟨rfl, rfl⟩)
  have BS : Below w.heap.size w ((w.alloc (.cells #[.int .i64 0, .string ⟨#[]⟩, .slice none 0 0, .slice none 0 0] 40)).alloc (.cells #[.int .i64 row, .string (str p1), .slice none 0 0, .slice none 0 0] 40)) := two_alloc w _ _
  have RB : TBox ((w.alloc (.cells #[.int .i64 0, .string ⟨#[]⟩, .slice none 0 0, .slice none 0 0] 40)).alloc (.cells #[.int .i64 row, .string (str p1), .slice none 0 0, .slice none 0 0] 40)) w.heap.size 0 [] (.slice none 0 0) (.slice none 0 0) := by constructor <;> simp [go_sem, str]
  have I0 : TnI ((w.alloc (.cells #[.int .i64 0, .string ⟨#[]⟩, .slice none 0 0, .slice none 0 0] 40)).alloc (.cells #[.int .i64 row, .string (str p1), .slice none 0 0, .slice none 0 0] 40)) (w.heap.size + 1) row p1 ((prW ws 2).map (headC 46)) ((prW ws 2).map (tailC 46)) (.slice none 0 0) (.slice none 0 0) ((w.alloc (.cells #[.int .i64 0, .string ⟨#[]⟩, .slice none 0 0, .slice none 0 0] 40)).alloc (.cells #[.int .i64 row, .string (str p1), .slice none 0 0, .slice none 0 0] 40)) := by
    have e : prW ws 2 = [] := by unfold prW; exact List.drop_eq_nil_of_le (by rw [List.length_take]; omega)
    rw [e]
    refine ⟨by constructor <;> simp [go_sem, str], World.ownsRow_nil _ _ _ _, World.ownsRow_nil _ _ _ _, fun g h => (by cases h), Below.refl _ _, by simp⟩
  generalize (w.alloc (.cells #[.int .i64 0, .string ⟨#[]⟩, .slice none 0 0, .slice none 0 0] 40)).alloc (.cells #[.int .i64 row, .string (str p1), .slice none 0 0, .slice none 0 0] 40) = wS at *
  have BS := Lib.hid BS
  have RB := Lib.hid RB
  have I0 := Lib.hid I0
  clear c0 c1 d0 i1 i2 i3 i4
  go_loopw [7] (fun i wr => ∃ (k : Nat) (v1 v2 : Value), i = .int .i64 (k : Int) ∧ 2 ≤ k ∧ k ≤ n ∧ (prW ws k).all pwB = true ∧ TnI wS (w.heap.size + 1) row p1 ((prW ws k).map (headC 46)) ((prW ws k).map (tailC 46)) v1 v2 wr) (fun i _ => match i with | .int _ x => (n - x).toNat | _ => 0)
  case atStart => exact ⟨2, _, _, rfl, by omega, by omega, by rw [show prW ws 2 = [] from List.drop_eq_nil_of_le (by rw [List.length_take]; omega)]; rfl, I0.out⟩
  case round =>
    obtain ⟨k, v1, v2, rfl, hk2, hkn, hall, hI⟩ := hrel
    have I := Lib.hid hI
    have ALL := Lib.hid hall
    clear hI hall
    have RBr := Lib.hid (RB.out.same (I.out.bel.block w.heap.size (by omega)))
    have BR := Lib.hid (BS.out.trans (I.out.bel.mono (by omega)))
    by_cases hlt : k < n
    · have ck : wr.cell? ⟨b0, o0 + k, none⟩ = some (.string (str (ws.getD k []))) := (I.out.bel.cell (p := ⟨b0, o0 + k, none⟩) (show b0 < w.heap.size + 1 by omega)).trans ((BS.out.cell (p := ⟨b0, o0 + k, none⟩) hb0).trans (HC.out k hlt))
      have hpl : (ws.getD k []).length ≤ 1000000 := HS.out _ (by
        have : k < ws.length := by rw [HL.out]; exact hlt
        simp [List.getD, List.getElem?_eq_getElem this])
      have NX := Lib.hid (prW_next (ws := ws) hk2 (by rw [HL.out]; exact hlt))
      have BAD := Lib.hid (fun hb => rn_bad HK.out HL.out H1.out hk2 hlt hb)
      have i0 : (k : Int) < (n : Int) := by omega
      obtain ⟨p, hp⟩ : ∃ p, ws.getD k [] = p := ⟨_, rfl⟩
      rw [hp] at ck hpl NX BAD
      have D := Lib.hid (fun w => dot_any p w hpl)
      have sz : (str p).size = p.length := str_size p
      have r0 := RBr.out.c0
      have r1 := RBr.out.c1
      have r2 := RBr.out.c2
      have r3 := RBr.out.c3
      have rf := RBr.out.fz
      clear hp
      rcases pwB_cases p with ⟨hno, hh⟩ | ⟨hyes, hd, hh, ht⟩
      · have E := Lib.hid (show rnE ws = 20 from BAD.out (by unfold pwB; rw [hno]; rfl))
        have E2 := Lib.hid (show rnT ws row = TV.zero by unfold rnT; rw [if_neg (by rw [E.out]; decide)])
        rw [hh] at D
        have ee : ((p.length : Int) == (p.length : Int)) = true := by simp
        clear hh hno
        go_wp2_with (go_at_call 35; (with_reducible refine (D.out _).mono ?_); rintro e w1 ⟨rfl, rfl⟩)
        exact bodyPost_ret (tn_ret _ _ TV.zero SlT.nil SlT.nil 20 w.heap.size rfl rfl (RBr.out.put4 0 [] (.slice none 0 0) (.slice none 0 0))) rfl (by rw [E.out, E2.out]; exact ⟨SlT.nil, SlT.nil, rfl, ten_zero _ _, (((BR.out.setCell (p := ⟨w.heap.size, 0, none⟩) (Nat.le_refl _) _).setCell (p := ⟨w.heap.size, 1, none⟩) (Nat.le_refl _) _).setCell (p := ⟨w.heap.size, 2, none⟩) (Nat.le_refl _) _).setCell (p := ⟨w.heap.size, 3, none⟩) (Nat.le_refl _) _⟩)
      · obtain ⟨d, hdd⟩ : ∃ d, (headC 46 p).length = d := ⟨_, rfl⟩
        rw [hdd] at D hd hh ht
        have ee : ((d : Int) == (p.length : Int)) = false := by rw [beq_eq_false_iff_ne]; omega
        have ex1 : (str p).extract 0 d = str (headC 46 p) := by rw [extract_take, show (str p).data.toList = p by simp]; exact congrArg str hh.symm
        have ex2 : (str p).extract (d + 1) p.length = str (tailC 46 p) := by
          rw [ht, ← str_data ((str p).extract (d + 1) p.length)]
          congr 1
          rw [Lib.extract_data]
          simp only []
          exact List.take_of_length_le (by rw [List.length_drop]; omega)
        have l1 : (headC 46 p).length ≤ 1000000 := by omega
        have l2 : (tailC 46 p).length ≤ 1000000 := by rw [ht, List.length_drop]; omega
        have i5 : (d : Int) ≤ (p.length : Int) := by omega
        have i6 : (d : Int) + 1 ≤ (p.length : Int) := by omega
        have wk : IntKind.i64.wrap ((d : Int) + 1) = (d : Int) + 1 := IntWalk.i64_in _ (by omega)
        have PW := Lib.hid (show pwB p = (nwB (headC 46 p) && nwB (tailC 46 p)) by unfold pwB; rw [hyes, Bool.true_and])
        have N1 := Lib.hid (fun b hb w => name_of (headC 46 p) l1 b hb w)
        have N2 := Lib.hid (fun b hb w => name_of (tailC 46 p) l2 b hb w)
        clear hh ht hdd hyes l1 l2
        generalize hhp : headC 46 p = hp at *
        generalize htp : tailC 46 p = tp at *
        have HHP := Lib.hid hhp
        have HTP := Lib.hid htp
        clear hhp htp
        cases b1 : nwB hp with
        | false =>
          have E := Lib.hid (show rnE ws = 20 from BAD.out (by rw [PW.out, b1]; rfl))
          have E2 := Lib.hid (show rnT ws row = TV.zero by unfold rnT; rw [if_neg (by rw [E.out]; decide)])
          have M1 := Lib.hid (N1.out false b1)
          clear b1
          go_wp2_with (first
            | (go_at_call 35; (with_reducible refine (D.out _).mono ?_); rintro e w1 ⟨rfl, rfl⟩)
            | (go_at_call 34; (with_reducible refine (M1.out _).mono ?_); rintro e w1 ⟨rfl, rfl⟩))
          exact bodyPost_ret (tn_ret _ _ TV.zero SlT.nil SlT.nil 20 w.heap.size rfl rfl (RBr.out.put4 0 [] (.slice none 0 0) (.slice none 0 0))) rfl (by rw [E.out, E2.out]; exact ⟨SlT.nil, SlT.nil, rfl, ten_zero _ _, (((BR.out.setCell (p := ⟨w.heap.size, 0, none⟩) (Nat.le_refl _) _).setCell (p := ⟨w.heap.size, 1, none⟩) (Nat.le_refl _) _).setCell (p := ⟨w.heap.size, 2, none⟩) (Nat.le_refl _) _).setCell (p := ⟨w.heap.size, 3, none⟩) (Nat.le_refl _) _⟩)
        | true =>
          have M1 := Lib.hid (N1.out true b1)
          cases b2 : nwB tp with
          | false =>
            have E := Lib.hid (show rnE ws = 20 from BAD.out (by rw [PW.out, b1, b2]; rfl))
            have E2 := Lib.hid (show rnT ws row = TV.zero by unfold rnT; rw [if_neg (by rw [E.out]; decide)])
            have M2 := Lib.hid (N2.out false b2)
            clear b1 b2
            go_wp2_with (first
              | (go_at_call 35; (with_reducible refine (D.out _).mono ?_); rintro e w1 ⟨rfl, rfl⟩)
              | (go_at_call 34; (with_reducible refine (M1.out _).mono ?_); rintro e w1 ⟨rfl, rfl⟩)
              | (go_at_call 34; (with_reducible refine (M2.out _).mono ?_); rintro e w1 ⟨rfl, rfl⟩))
            exact bodyPost_ret (tn_ret _ _ TV.zero SlT.nil SlT.nil 20 w.heap.size rfl rfl (RBr.out.put4 0 [] (.slice none 0 0) (.slice none 0 0))) rfl (by rw [E.out, E2.out]; exact ⟨SlT.nil, SlT.nil, rfl, ten_zero _ _, (((BR.out.setCell (p := ⟨w.heap.size, 0, none⟩) (Nat.le_refl _) _).setCell (p := ⟨w.heap.size, 1, none⟩) (Nat.le_refl _) _).setCell (p := ⟨w.heap.size, 2, none⟩) (Nat.le_refl _) _).setCell (p := ⟨w.heap.size, 3, none⟩) (Nat.le_refl _) _⟩)
          | true =>
            have PG := Lib.hid (show pwB p = true by rw [PW.out, b1, b2]; rfl)
            have M2 := Lib.hid (N2.out true b2)
            clear b1 b2 r0 r1 r2 r3 rf
            go_wp2_with (first
              | (go_at_call 35; (with_reducible refine (D.out _).mono ?_); rintro e w1 ⟨rfl, rfl⟩)
              | (go_at_call 34; (with_reducible refine (M1.out _).mono ?_); rintro e w1 ⟨rfl, rfl⟩)
              | (go_at_call 34; (with_reducible refine (M2.out _).mono ?_); rintro e w1 ⟨rfl, rfl⟩))
            have hlnA : (((prW ws k).map (headC 46))).length ≤ 100000 := by rw [List.length_map]; have := prW_len (ws := ws) (k := k); omega
            obtain ⟨W0, hWA⟩ : ∃ W0, wr.drew = W0 := ⟨_, rfl⟩
            have IDA : TnI wS (w.heap.size + 1) row p1 ((prW ws k).map (headC 46)) ((prW ws k).map (tailC 46)) v1 v2 W0 := hWA ▸ (I.out).drew
            have cwA : W0.cell? ⟨b0, o0 + k, none⟩ = some (.string (str p)) := hWA ▸ (show wr.drew.cell? ⟨b0, o0 + k, none⟩ = some (.string (str p)) from ck)
            have HWA := Lib.hid hWA
            clear hWA
            obtain ⟨xA, W2, hrA, ownA, grA, atA⟩ := run_tapp (w := W0) hp IDA.o1 hlnA IDA.sz
            obtain ⟨xAA, xNA, xCA, hxA⟩ := tn_shape ownA
            subst hxA
            obtain ⟨TBA, INA⟩ := IDA.app1 ownA grA atA
            have qbA : b0 < W0.heap.size := by have := IDA.sz; omega
            have caA : (W0.alloc (.cells #[.string (str hp)] 9)).cell? ⟨b0, o0 + k, none⟩ = some (.string (str p)) := (World.cell?_of_block (w := W0) (a := ⟨b0, o0 + k, none⟩) (heap_new _ qbA)).trans cwA
            have cbA : W2.cell? ⟨b0, o0 + k, none⟩ = some (.string (str p)) := (World.cell?_of_block (a := ⟨b0, o0 + k, none⟩) (grA.block b0 (by rw [World.size_alloc]; exact Nat.lt_succ_of_lt qbA) (fun e => by have := (IDA.o1.lt b0 e.symm).1; omega))).trans caA
            have ccA : (W2.setCell ⟨w.heap.size + 1, 2, none⟩ (.slice xAA xNA xCA)).cell? ⟨b0, o0 + k, none⟩ = some (.string (str p)) := by rw [World.cell?_setCell_other _ _ _ _ (by intro e; injection e with e1 _; omega)]; exact cbA
            have cdA : (W0.alloc (.cells #[.string (str hp)] 9)).cell? ⟨w.heap.size + 1, 2, none⟩ = some v1 := (World.cell?_of_block (w := W0) (a := ⟨w.heap.size + 1, 2, none⟩) (heap_new _ IDA.box.lt)).trans IDA.box.c2
            obtain ⟨W1, hAA⟩ : ∃ W1, W0.alloc (.cells #[.string (str hp)] 9) = W1 := ⟨_, rfl⟩
            obtain ⟨W3, hBA⟩ : ∃ W3, W2.setCell ⟨w.heap.size + 1, 2, none⟩ (.slice xAA xNA xCA) = W3 := ⟨_, rfl⟩
            rw [hAA] at hrA caA cdA
            rw [hBA] at ccA INA
            have HAA := Lib.hid hAA
            have HBA := Lib.hid hBA
            have CKA := Lib.hid (fun m wx (hx : PhS W0 W1 W2 W3 m wx) => hx.all cwA caA cbA ccA)
            have CFA := Lib.hid (fun m wx (hx : PhS W0 W1 W2 W3 m wx) (hm : m ≤ 1) => hx.two hm IDA.box.c2 cdA)
            have HRA := Lib.hid hrA
            have C2A := Lib.hid TBA.c2
            have F2A := Lib.hid (TBA.fz 2)
            have IA := Lib.hid INA
            have C4A := Lib.hid ccA
            clear hlnA cwA hrA ownA grA atA TBA INA qbA caA cbA ccA cdA hAA hBA
            refine wp_region_phases (PhS W0 W1 W2 W3) [8, 9, 11] (by kernel_rfl) (by kernel_rfl) (by kernel_rfl) (.inl ⟨rfl, HWA.out⟩) ?_
            repeat
              first
                | (refine SeqP.run ?_ 3 (limJ_le _ _ _ _) rfl (by decide) (fun m hm wx hx => ?_) ?_
                   rotate_left
                   · have ck0 := CKA.out m wx hx
                     go_simp
                     refine StepRun.val ?_; exact hx
                   simp only [Act.put, List.setIfInBounds_toArray, List.set_cons_zero, List.set_cons_succ])
                | (refine SeqP.run v1 1 (of_decide_eq_true (by kernel_rfl)) rfl (by decide) (fun m hm wx hx => ?_) ?_
                   · have cf := CFA.out m wx hx hm
                     go_simp
                     refine StepRun.val ?_; exact hx
                   simp only [Act.put, List.setIfInBounds_toArray, List.set_cons_zero, List.set_cons_succ])
                | (refine SeqP.make (.slice (some ⟨W0.heap.size, 0, none⟩) 1 1) 0 rfl rfl (fun wx hx => ?_) ?_
                   · obtain rfl := hx.p0
                     go_simp
                     exact ⟨rfl, .inr (.inl ⟨rfl, HAA.out⟩)⟩
                   simp only [Act.put, List.setIfInBounds_toArray, List.set_cons_zero, List.set_cons_succ])
                | (refine SeqP.make (.slice xAA xNA xCA) 1 rfl rfl (fun wx hx => ?_) ?_
                   · obtain rfl := hx.p1
                     rw [exec_tapp rfl rfl rfl rfl HRA.out]
                     exact ⟨rfl, .inr (.inr (.inl ⟨rfl, rfl⟩))⟩
                   simp only [Act.put, List.setIfInBounds_toArray, List.set_cons_zero, List.set_cons_succ])
                | (refine SeqP.make undef 2 rfl rfl (fun wx hx => ?_) ?_
                   · obtain rfl := hx.p2
                     have cf := C2A.out
                     have ff := F2A.out
                     go_simp
                     exact ⟨rfl, .inr (.inr (.inr ⟨Nat.le_refl _, HBA.out⟩))⟩
                   simp only [Act.put])
            refine SeqP.last rfl (fun w9 h9 => ?_)
            obtain rfl := h9.p3
            go_wp2
            have hlnB : (((prW ws k).map (tailC 46))).length ≤ 100000 := by rw [List.length_map]; have := prW_len (ws := ws) (k := k); omega
            obtain ⟨U0, hWB⟩ : ∃ W0, w9.drew = W0 := ⟨_, rfl⟩
            have IDB : TnI wS (w.heap.size + 1) row p1 (((prW ws k).map (headC 46)) ++ [hp]) ((prW ws k).map (tailC 46)) (.slice xAA xNA xCA) v2 U0 := hWB ▸ (IA.out).drew
            have cwB : U0.cell? ⟨b0, o0 + k, none⟩ = some (.string (str p)) := hWB ▸ (show w9.drew.cell? ⟨b0, o0 + k, none⟩ = some (.string (str p)) from C4A.out)
            have HWB := Lib.hid hWB
            clear hWB
            obtain ⟨xB, U2, hrB, ownB, grB, atB⟩ := run_tapp (w := U0) tp IDB.o2 hlnB IDB.sz
            obtain ⟨xAB, xNB, xCB, hxB⟩ := tn_shape ownB
            subst hxB
            obtain ⟨TBB, INB⟩ := IDB.app2 ownB grB atB
            have qbB : b0 < U0.heap.size := by have := IDB.sz; omega
            have caB : (U0.alloc (.cells #[.string (str tp)] 9)).cell? ⟨b0, o0 + k, none⟩ = some (.string (str p)) := (World.cell?_of_block (w := U0) (a := ⟨b0, o0 + k, none⟩) (heap_new _ qbB)).trans cwB
            have cbB : U2.cell? ⟨b0, o0 + k, none⟩ = some (.string (str p)) := (World.cell?_of_block (a := ⟨b0, o0 + k, none⟩) (grB.block b0 (by rw [World.size_alloc]; exact Nat.lt_succ_of_lt qbB) (fun e => by have := (IDB.o2.lt b0 e.symm).1; omega))).trans caB
            have ccB : (U2.setCell ⟨w.heap.size + 1, 3, none⟩ (.slice xAB xNB xCB)).cell? ⟨b0, o0 + k, none⟩ = some (.string (str p)) := by rw [World.cell?_setCell_other _ _ _ _ (by intro e; injection e with e1 _; omega)]; exact cbB
            have cdB : (U0.alloc (.cells #[.string (str tp)] 9)).cell? ⟨w.heap.size + 1, 3, none⟩ = some v2 := (World.cell?_of_block (w := U0) (a := ⟨w.heap.size + 1, 3, none⟩) (heap_new _ IDB.box.lt)).trans IDB.box.c3
            obtain ⟨U1, hAB⟩ : ∃ W1, U0.alloc (.cells #[.string (str tp)] 9) = W1 := ⟨_, rfl⟩
            obtain ⟨U3, hBB⟩ : ∃ W3, U2.setCell ⟨w.heap.size + 1, 3, none⟩ (.slice xAB xNB xCB) = W3 := ⟨_, rfl⟩
            rw [hAB] at hrB caB cdB
            rw [hBB] at ccB INB
            have HAB := Lib.hid hAB
            have HBB := Lib.hid hBB
            have CKB := Lib.hid (fun m wx (hx : PhS U0 U1 U2 U3 m wx) => hx.all cwB caB cbB ccB)
            have CFB := Lib.hid (fun m wx (hx : PhS U0 U1 U2 U3 m wx) (hm : m ≤ 1) => hx.two hm IDB.box.c3 cdB)
            have HRB := Lib.hid hrB
            have C2B := Lib.hid TBB.c3
            have F2B := Lib.hid (TBB.fz 3)
            have IB := Lib.hid INB
            have C4B := Lib.hid ccB
            clear hlnB cwB hrB ownB grB atB TBB INB qbB caB cbB ccB cdB hAB hBB
            refine wp_region_phases (PhS U0 U1 U2 U3) [9, 10, 12] (by kernel_rfl) (by kernel_rfl) (by kernel_rfl) (.inl ⟨rfl, HWB.out⟩) ?_
            repeat
              first
                | (refine SeqP.run ?_ 3 (limJ_le _ _ _ _) rfl (by decide) (fun m hm wx hx => ?_) ?_
                   rotate_left
                   · have ck0 := CKB.out m wx hx
                     go_simp
                     refine StepRun.val ?_; exact hx
                   simp only [Act.put, List.setIfInBounds_toArray, List.set_cons_zero, List.set_cons_succ])
                | (refine SeqP.run v2 1 (of_decide_eq_true (by kernel_rfl)) rfl (by decide) (fun m hm wx hx => ?_) ?_
                   · have cf := CFB.out m wx hx hm
                     go_simp
                     refine StepRun.val ?_; exact hx
                   simp only [Act.put, List.setIfInBounds_toArray, List.set_cons_zero, List.set_cons_succ])
                | (refine SeqP.make (.slice (some ⟨U0.heap.size, 0, none⟩) 1 1) 0 rfl rfl (fun wx hx => ?_) ?_
                   · obtain rfl := hx.p0
                     go_simp
                     exact ⟨rfl, .inr (.inl ⟨rfl, HAB.out⟩)⟩
                   simp only [Act.put, List.setIfInBounds_toArray, List.set_cons_zero, List.set_cons_succ])
                | (refine SeqP.make (.slice xAB xNB xCB) 1 rfl rfl (fun wx hx => ?_) ?_
                   · obtain rfl := hx.p1
                     rw [exec_tapp rfl rfl rfl rfl HRB.out]
                     exact ⟨rfl, .inr (.inr (.inl ⟨rfl, rfl⟩))⟩
                   simp only [Act.put, List.setIfInBounds_toArray, List.set_cons_zero, List.set_cons_succ])
                | (refine SeqP.make undef 2 rfl rfl (fun wx hx => ?_) ?_
                   · obtain rfl := hx.p2
                     have cf := C2B.out
                     have ff := F2B.out
                     go_simp
                     exact ⟨rfl, .inr (.inr (.inr ⟨Nat.le_refl _, HBB.out⟩))⟩
                   simp only [Act.put])
            refine SeqP.last rfl (fun w10 h10 => ?_)
            obtain rfl := h10.p3
            go_wp2
            go_roundw
            case rel => exact ⟨k + 1, _, _, by simp, by omega, by omega, by rw [NX.out, List.all_append, ALL.out]; simp [PG.out], by rw [NX.out, List.map_append, List.map_append, List.map_cons, List.map_nil, List.map_cons, List.map_nil, HHP.out, HTP.out]; exact IB.out⟩
            case measure => simp only []; omega
    · have hkn2 : k = n := by omega
      subst hkn2
      have PA := Lib.hid (prW_all (ws := ws) (k := k) (by rw [HL.out]; omega))
      have G := Lib.hid (rn_good row HK.out HL.out H1.out (by rw [← PA.out]; exact ALL.out))
      obtain ⟨m1, hm1⟩ : ∃ m, ((prW ws k).map (headC 46)).length = m := ⟨_, rfl⟩
      obtain ⟨m2, hm2⟩ : ∃ m, ((prW ws k).map (tailC 46)).length = m := ⟨_, rfl⟩
      have o1 := I.out.o1
      have o2 := I.out.o2
      rw [hm1] at o1
      rw [hm2] at o2
      clear hm1 hm2
      obtain ⟨xA, xC, hx⟩ := tn_shape2 o1
      obtain ⟨yA, yC, hy⟩ := tn_shape2 o2
      subst hx hy
      have OO1 := Lib.hid o1
      have OO2 := Lib.hid o2
      clear o1 o2
      have i0 : ¬ (k : Int) < (k : Int) := by omega
      have t0 := I.out.box.c0
      have t1 := I.out.box.c1
      have t2 := I.out.box.c2
      have t3 := I.out.box.c3
      have r0 := RBr.out.c0
      have r1 := RBr.out.c1
      have r2 := RBr.out.c2
      have r3 := RBr.out.c3
      have rf := RBr.out.fz
      go_wp2
      have RB4 := RBr.out.put4 row p1 (.slice xA m1 xC) (.slice yA m2 yC)
      have BL : Below w.heap.size w ((((wr.setCell ⟨w.heap.size, 0, none⟩ (.int .i64 row)).setCell ⟨w.heap.size, 1, none⟩ (.string (str p1))).setCell ⟨w.heap.size, 2, none⟩ (.slice xA m1 xC)).setCell ⟨w.heap.size, 3, none⟩ (.slice yA m2 yC)) := (((BR.out.setCell (p := ⟨w.heap.size, 0, none⟩) (Nat.le_refl _) _).setCell (p := ⟨w.heap.size, 1, none⟩) (Nat.le_refl _) _).setCell (p := ⟨w.heap.size, 2, none⟩) (Nat.le_refl _) _).setCell (p := ⟨w.heap.size, 3, none⟩) (Nat.le_refl _) _
      have keep : ∀ g, w.heap.size + 1 + 1 ≤ g → ((((wr.setCell ⟨w.heap.size, 0, none⟩ (.int .i64 row)).setCell ⟨w.heap.size, 1, none⟩ (.string (str p1))).setCell ⟨w.heap.size, 2, none⟩ (.slice xA m1 xC)).setCell ⟨w.heap.size, 3, none⟩ (.slice yA m2 yC)).heap[g]? = wr.heap[g]? := fun g hg => by
        rw [Below.heap_setCell _ _ _ g (by show g ≠ w.heap.size; omega), Below.heap_setCell _ _ _ g (by show g ≠ w.heap.size; omega), Below.heap_setCell _ _ _ g (by show g ≠ w.heap.size; omega), Below.heap_setCell _ _ _ g (by show g ≠ w.heap.size; omega)]
      have O1 := own_same OO1.out (fun g hg => keep g (OO1.out.lt g hg).1)
      have O2 := own_same OO2.out (fun g hg => keep g (OO2.out.lt g hg).1)
      refine bodyPost_ret (tn_ret _ _ ⟨row, p1, (prW ws k).map (headC 46), (prW ws k).map (tailC 46)⟩ ⟨xA, m1, xC⟩ ⟨yA, m2, yC⟩ 0 w.heap.size rfl rfl RB4) rfl ?_
      rw [G.out.1, G.out.2, ← PA.out, HP1.out]
      exact ⟨_, _, rfl, ⟨_, _, rfl, own_rsl O1 _ (fun g hg => ⟨by have := (O1.lt g hg).1; omega, (O1.lt g hg).2⟩), own_rsl O2 _ (fun g hg => ⟨by have := (O2.lt g hg).1; omega, (O2.lt g hg).2⟩)⟩, BL⟩
end Go.Proofs.Ytkfhjmoocnhekaa
