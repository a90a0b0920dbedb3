/- A call of a function value that holds its receiver. -/
import Derived.Test.YtpbomfhlghljdaaGreatDoorStPut
import Derived.Test.YtpbomfhlghljdaaGreatDoorStFld
namespace Go.Proofs.YtpbomfhlghljdaaGreatDoor
open Go.RowKit

theorem run_cf {P : Program} {f : FuncId} {fn : Func} {c : Code} (hf : P.funcs[f]? = some fn) (hname : (fn.name == "runtime.NumGoroutine") = false) (hb : fn.body = some c) (args : Array Value) (w : World) : (callFunc f args).run P w = .ok (.enter f args) w := by
  have h2 : ¬ fn.name = "runtime.NumGoroutine" := by simpa using hname
  unfold callFunc
  simp [go_sem, hf, h2, hb]
/-- a field's function is entered -/
theorem run_fnum (k : Nat) (hk : k < 16) (args : Array Value) (w : World) : (callFunc (fnum k) args).run Tryz.prog w = .ok (.enter (fnum k) args) w := by
  match k, hk with
  | 0, _ => exact run_cf Tryz.func34 (by kernel_rfl) rfl args w
  | 1, _ => exact run_cf Tryz.func37 (by kernel_rfl) rfl args w
  | 2, _ => exact run_cf Tryz.func42 (by kernel_rfl) rfl args w
  | 3, _ => exact run_cf Tryz.func43 (by kernel_rfl) rfl args w
  | 4, _ => exact run_cf Tryz.func46 (by kernel_rfl) rfl args w
  | 5, _ => exact run_cf Tryz.func39 (by kernel_rfl) rfl args w
  | 6, _ => exact run_cf Tryz.func35 (by kernel_rfl) rfl args w
  | 7, _ => exact run_cf Tryz.func40 (by kernel_rfl) rfl args w
  | 8, _ => exact run_cf Tryz.func38 (by kernel_rfl) rfl args w
  | 9, _ => exact run_cf Tryz.func36 (by kernel_rfl) rfl args w
  | 10, _ => exact run_cf Tryz.func44 (by kernel_rfl) rfl args w
  | 11, _ => exact run_cf Tryz.func49 (by kernel_rfl) rfl args w
  | 12, _ => exact run_cf Tryz.func41 (by kernel_rfl) rfl args w
  | 13, _ => exact run_cf Tryz.func47 (by kernel_rfl) rfl args w
  | 14, _ => exact run_cf Tryz.func48 (by kernel_rfl) rfl args w
  | 15, _ => exact run_cf Tryz.func45 (by kernel_rfl) rfl args w
  | k + 16, h => exact absurd h (by omega)
theorem run_dyn (ρ : Operand → Value) (o : Oper) (x y : Operand) (t : TypeId) (k : Nat) (hk : k < 16) (p q : Value) (w : World) (ho : o.op = .call { callee := .value x, args := #[y], argTypes := #[t] }) (hx : ρ x = .func (.func (fnum k)) #[p] #[]) (hy : ρ y = q) :
    (execOp ρ o).run Tryz.prog w = .ok (.enter (fnum k) #[p, q]) w := by
  unfold execOp
  rw [ho]
  simp [go_sem, hx, hy, run_fnum k hk]
theorem wpList_dyn {ops : Array Oper} {rest : List Oper} {o : Oper} {a : Act} {w : World} {Q : Exit → Act → World → Prop} (hg : o.guard = none) (x y : Operand) (t : TypeId) (k : Nat) (hk : k < 16) (p q : Value) (ho : o.op = .call { callee := .value x, args := #[y], argTypes := #[t] }) (hx : a.eval x = .func (.func (fnum k)) #[p] #[]) (hy : a.eval y = q)
    (h : Calls Tryz.prog (fnum k) #[p, q] w fun e w' => e = .returned (.tuple #[]) ∧ wpList Tryz.prog ops Q rest (a.put o.dst (.tuple #[])) w') : wpList Tryz.prog ops Q (o :: rest) a w := by
  refine wpList_plain hg fun K hK => ?_
  unfold Oper.wp
  rw [run_dyn a.eval o x y t k hk p q w ho hx hy]
  exact Calls.mono h (fun e w' ⟨he, hw⟩ => by subst he; exact hK _ _ hw)
/-- a field's exchange, called by its value -/
theorem wpList_fld {ops : Array Oper} {rest : List Oper} {o : Oper} {a : Act} {w : World} {Q : Exit → Act → World → Prop} {p q : Nat} {L : LV} {s1 s2 s3 s4 : SlV} {V : WV} {t1 t2 : SlV} (hg : o.guard = none) (x y : Operand) (t : TypeId) (k : Nat) (ho : o.op = .call { callee := .value x, args := #[y], argTypes := #[t] })
    (hx : a.eval x = .func (.func (fnum k)) #[.pointer (some ⟨p, 0, none⟩)] #[]) (hy : a.eval y = .pointer (some ⟨q, 0, none⟩)) (hk : k < 16) (hf : FV w p q L s1 s2 s3 s4 V t1 t2)
    (h : ∀ w' r1 r2 r3 r4 u1 u2, FV w' p q (fput k L V) r1 r2 r3 r4 (ftake k L V) u1 u2 → Ex2 p q w w' → wpList Tryz.prog ops Q rest (a.put o.dst (.tuple #[])) w') : wpList Tryz.prog ops Q (o :: rest) a w :=
  wpList_dyn hg x y t k hk _ _ ho hx hy ((fld_any k hk hf).mono fun _ w' ⟨he, r1, r2, r3, r4, u1, u2, h1, h2⟩ => ⟨he, h w' r1 r2 r3 r4 u1 u2 h1 h2⟩)
end Go.Proofs.YtpbomfhlghljdaaGreatDoor
