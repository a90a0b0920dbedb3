import Derived.Test.YtgmflecelnefcaaGreatOp17
import Derived.Test.YtgmflecelnefcaaGreatOp06
import Derived.Test.YtgmflecelnefcaaGreatOp04
import Derived.Test.YtgmflecelnefcaaGreatOp05
import Derived.Test.YtgmflecelnefcaaGreatOp11
import Derived.Test.YtgmflecelnefcaaGreatOp01
import Derived.RegionTactic
import Derived.Great.BuildSlice
set_option maxRecDepth 100000
set_option maxHeartbeats 40000000
namespace Go.Proofs.YtgmflecelnefcaaGreat
open Go.Lib (hid)
open Go.RowKit
def GotW (w:World) (q:Nat) (L:LV) (v:Value) (e:Ending) (w':World):Prop:=
 e=.returned v∧(∃s1 s2 s3 s4,LBox w' q L s1 s2 s3 s4)∧Ex q w w'
theorem refNm_any (s:List UInt8) (k:Int) (hk:0≤k) (q:Nat) (L:LV) (s1 s2 s3 s4:SlV) (w:World) (h:LBox w q L s1 s2 s3 s4):
 Calls Tryz.prog 202 #[.string (str s),.int .i64 k,.pointer (some ⟨q,0,none⟩)] w (GotW w q (nmL s k.toNat L) (.tuple #[])):=by
 have H:=hid h;obtain ⟨c0,c1,c2,c3,c4,c5,c6,_⟩:=h.cells;have hf:=h.frozen;clear h
 by_cases k0:k=0
 · have E:=hid (show nmL s k.toNat L={L with dev:=s} by subst k0;rfl)
   generalize nmL s k.toNat L=M at *;subst k0
   go_enter Tryz.func202,Tryz.ntmps202
   go_wp2;exact bodyPost_ret (v:=.tuple #[]) (by simp [results,Tryz.results202,go_sem]) rfl ⟨rfl,⟨_,_,_,_,by rw [E.out];exact H.out.set_dev s⟩,(Ex.refl _ _).set 2 _⟩
 · have hk0:k.toNat≠0:=by omega
   by_cases hK:L.kind=8∨L.kind=9
   · have E:=hid (show nmL s k.toNat L={L with name:=s} by unfold nmL;rw [if_neg hk0,if_pos hK])
     generalize nmL s k.toNat L=M at *;generalize hKK:L.kind=K at c1 hK;have hKK2:=hid hKK;clear hKK hk0
     rcases hK with rfl|rfl
     · go_enter Tryz.func202,Tryz.ntmps202
       go_wp2;exact bodyPost_ret (v:=.tuple #[]) (by simp [results,Tryz.results202,go_sem]) rfl ⟨rfl,⟨_,_,_,_,by rw [E.out];exact H.out.set_name s⟩,(Ex.refl _ _).set 6 _⟩
     · go_enter Tryz.func202,Tryz.ntmps202
       go_wp2;exact bodyPost_ret (v:=.tuple #[]) (by simp [results,Tryz.results202,go_sem]) rfl ⟨rfl,⟨_,_,_,_,by rw [E.out];exact H.out.set_name s⟩,(Ex.refl _ _).set 6 _⟩
   · have n8:¬L.kind=8:=fun g=>hK (.inl g)
     have n9:¬L.kind=9:=fun g=>hK (.inr g)
     by_cases k1:k=1
     · have E:=hid (show nmL s k.toNat L={L with port:=s} by subst k1;unfold nmL;rw [if_neg hk0,if_neg hK];rfl)
       generalize nmL s k.toNat L=M at *;generalize hKK:L.kind=K at c1 n8 n9
       have d8:(K == 8)=false:=by simpa using n8
       have d9:(K == 9)=false:=by simpa using n9
       have hKK2:=hid hKK;clear hKK hk0 hK k0;subst k1
       go_enter Tryz.func202,Tryz.ntmps202
       go_wp2;exact bodyPost_end (v:=.tuple #[]) (by simp [results,Tryz.results202,go_sem]) rfl ⟨rfl,⟨_,_,_,_,by rw [E.out];exact H.out.set_port s⟩,(Ex.refl _ _).set 3 _⟩
     · by_cases k2:k=2
       · have E:=hid (show nmL s k.toNat L={L with peer:=s} by subst k2;unfold nmL;rw [if_neg hk0,if_neg hK];rfl)
         generalize nmL s k.toNat L=M at *;generalize hKK:L.kind=K at c1 n8 n9
         have d8:(K == 8)=false:=by simpa using n8
         have d9:(K == 9)=false:=by simpa using n9
         have hKK2:=hid hKK;clear hKK hk0 hK k0 k1;subst k2
         go_enter Tryz.func202,Tryz.ntmps202
         go_wp2;exact bodyPost_end (v:=.tuple #[]) (by simp [results,Tryz.results202,go_sem]) rfl ⟨rfl,⟨_,_,_,_,by rw [E.out];exact H.out.set_peer s⟩,(Ex.refl _ _).set 4 _⟩
       · by_cases k3:k=3
         · have E:=hid (show nmL s k.toNat L={L with far:=s} by subst k3;unfold nmL;rw [if_neg hk0,if_neg hK];rfl)
           generalize nmL s k.toNat L=M at *;generalize hKK:L.kind=K at c1 n8 n9
           have d8:(K == 8)=false:=by simpa using n8
           have d9:(K == 9)=false:=by simpa using n9
           have hKK2:=hid hKK;clear hKK hk0 hK k0 k1 k2;subst k3
           go_enter Tryz.func202,Tryz.ntmps202
           go_wp2;exact bodyPost_end (v:=.tuple #[]) (by simp [results,Tryz.results202,go_sem]) rfl ⟨rfl,⟨_,_,_,_,by rw [E.out];exact H.out.set_far s⟩,(Ex.refl _ _).set 5 _⟩
         · have E:=hid (show nmL s k.toNat L=L by unfold nmL;rw [if_neg hk0,if_neg hK,if_neg (by omega),if_neg (by omega),if_neg (by omega)])
           generalize nmL s k.toNat L=M at *;generalize hKK:L.kind=K at c1 n8 n9
           have d8:(K == 8)=false:=by simpa using n8
           have d9:(K == 9)=false:=by simpa using n9
           have hKK2:=hid hKK;clear hKK hk0 hK
           have d0:(k == 0)=false:=by simpa using k0
           have d1:(k == 1)=false:=by simpa using k1
           have d2:(k == 2)=false:=by simpa using k2
           have d3:(k == 3)=false:=by simpa using k3
           go_enter Tryz.func202,Tryz.ntmps202
           go_wp2;exact bodyPost_end (v:=.tuple #[]) (by simp [results,Tryz.results202,go_sem]) rfl ⟨rfl,⟨_,_,_,_,by rw [E.out];exact H.out⟩,Ex.refl _ _⟩
def GotWd (w:World) (q:Nat) (E:Int) (M:LV) (e:Ending) (w':World):Prop:=
 e=.returned (.int .i64 E)∧(∃L s1 s2 s3 s4,LBox w' q L s1 s2 s3 s4∧(E=0→L=M))∧Ex q w w'
theorem pa_bd (s:List UInt8):0≤paV s∧paV s<4294967296:=by
 unfold paV
 cases h:pfF s with
 |none=>simp
 |some p=>
  obtain ⟨a,b⟩:=p
  have:=(pfF_iff.1 h).1
  simp;omega
theorem rdV_bd (s:List UInt8):0≤rdV s∧rdV s<4294967296:=by
 unfold rdV
 cases h:rdF s with
 |none=>simp
 |some a=>
  have:=(rdF_iff.1 h).1
  simp;omega
theorem lsA_some {s:List UInt8} (h:lsB rdA s=true):1≤(lsV rdA s).length:=by
 unfold lsB at h;unfold lsV
 cases hx:rlF rdA s with
 |none=>rw [hx] at h;cases h
 |some xs=>
  unfold rlF at hx
  cases hy:vBr rdA (vAh s) with
  |none=>rw [hy] at hx;cases hx
  |some ys=>
   rw [hy] at hx;simp only at hx
   by_cases hr:risB ys=true
   · rw [if_pos hr] at hx
     cases hx
     exact ((vCd xs).1 hr).1
   · rw [if_neg hr] at hx;cases hx
theorem rword_P (s:List UInt8) (k:Int) (_hk:0≤k) (q:Nat) (L:LV) (s1 s2 s3 s4:SlV) (w:World) (h:LBox w q L s1 s2 s3 s4) (hs:s.length≤1000000):
 Calls Tryz.prog 190 #[.int .u8 80,.string (str s),.int .i64 k,.pointer (some ⟨q,0,none⟩)] w (GotWd w q (wdE 80 s) (wdL 80 s k.toNat L)):=by
 have H:=hid h;have C:=hid (fun w=>vCe s 0 65535 w (by unfold maxLen;omega));have EE:=hid (show wdE 80 s=if nB s 0 65535=true then 0 else 21 by simp [wdE,wdB]);have EL:=hid (show wdL 80 s k.toNat L={L with num:=nV s 0 65535} by simp [wdL]);generalize wdE 80 s=E at *;generalize wdL 80 s k.toNat L=M at *;generalize nV s 0 65535=V at *;generalize nB s 0 65535=b at *;clear h
 cases b
 · go_enter Tryz.func190,Tryz.ntmps190
   go_wp2_with (go_at_call 203;(with_reducible refine (C.out _).mono ?_);rintro e w1 ⟨rfl,hb1⟩;have B1:=hid hb1;have H1:=hid (H.out.below hb1);clear hb1;obtain ⟨z0,z1,z2,z3,z4,z5,z6,z7,z8,z9,z10,z11,z12,z13,z14,z15,z16⟩:=H1.out.cells;have zf:=H1.out.frozen;have zl:=H1.out.lt);exact bodyPost_ret (v:=.int .i64 21) (by simp [results,Tryz.results190,go_sem]) rfl ⟨by rw [EE.out];rfl,⟨_,_,_,_,_,H1.out.set_num V,fun _=>EL.out.symm⟩,(Ex.of_below B1.out).set 11 _⟩
 · go_enter Tryz.func190,Tryz.ntmps190
   go_wp2_with (go_at_call 203;(with_reducible refine (C.out _).mono ?_);rintro e w1 ⟨rfl,hb1⟩;have B1:=hid hb1;have H1:=hid (H.out.below hb1);clear hb1;obtain ⟨z0,z1,z2,z3,z4,z5,z6,z7,z8,z9,z10,z11,z12,z13,z14,z15,z16⟩:=H1.out.cells;have zf:=H1.out.frozen;have zl:=H1.out.lt);exact bodyPost_ret (v:=.int .i64 0) (by simp [results,Tryz.results190,go_sem]) rfl ⟨by rw [EE.out];rfl,⟨_,_,_,_,_,H1.out.set_num V,fun _=>EL.out.symm⟩,(Ex.of_below B1.out).set 11 _⟩
theorem rword_V (s:List UInt8) (k:Int) (_hk:0≤k) (q:Nat) (L:LV) (s1 s2 s3 s4:SlV) (w:World) (h:LBox w q L s1 s2 s3 s4) (hs:s.length≤1000000):
 Calls Tryz.prog 190 #[.int .u8 86,.string (str s),.int .i64 k,.pointer (some ⟨q,0,none⟩)] w (GotWd w q (wdE 86 s) (wdL 86 s k.toNat L)):=by
 have H:=hid h;have C:=hid (fun w=>vCe s 1 4094 w (by unfold maxLen;omega));have EE:=hid (show wdE 86 s=if nB s 1 4094=true then 0 else 21 by simp [wdE,wdB]);have EL:=hid (show wdL 86 s k.toNat L={L with vlan:=nV s 1 4094} by simp [wdL]);generalize wdE 86 s=E at *;generalize wdL 86 s k.toNat L=M at *;generalize nV s 1 4094=V at *;generalize nB s 1 4094=b at *;clear h
 cases b
 · go_enter Tryz.func190,Tryz.ntmps190
   go_wp2_with (go_at_call 203;(with_reducible refine (C.out _).mono ?_);rintro e w1 ⟨rfl,hb1⟩;have B1:=hid hb1;have H1:=hid (H.out.below hb1);clear hb1;obtain ⟨z0,z1,z2,z3,z4,z5,z6,z7,z8,z9,z10,z11,z12,z13,z14,z15,z16⟩:=H1.out.cells;have zf:=H1.out.frozen;have zl:=H1.out.lt);exact bodyPost_ret (v:=.int .i64 21) (by simp [results,Tryz.results190,go_sem]) rfl ⟨by rw [EE.out];rfl,⟨_,_,_,_,_,H1.out.set_vlan V,fun _=>EL.out.symm⟩,(Ex.of_below B1.out).set 10 _⟩
 · go_enter Tryz.func190,Tryz.ntmps190
   go_wp2_with (go_at_call 203;(with_reducible refine (C.out _).mono ?_);rintro e w1 ⟨rfl,hb1⟩;have B1:=hid hb1;have H1:=hid (H.out.below hb1);clear hb1;obtain ⟨z0,z1,z2,z3,z4,z5,z6,z7,z8,z9,z10,z11,z12,z13,z14,z15,z16⟩:=H1.out.cells;have zf:=H1.out.frozen;have zl:=H1.out.lt);exact bodyPost_ret (v:=.int .i64 0) (by simp [results,Tryz.results190,go_sem]) rfl ⟨by rw [EE.out];rfl,⟨_,_,_,_,_,H1.out.set_vlan V,fun _=>EL.out.symm⟩,(Ex.of_below B1.out).set 10 _⟩
theorem rword_I (s:List UInt8) (k:Int) (_hk:0≤k) (q:Nat) (L:LV) (s1 s2 s3 s4:SlV) (w:World) (h:LBox w q L s1 s2 s3 s4) (hs:s.length≤1000000):
 Calls Tryz.prog 190 #[.int .u8 73,.string (str s),.int .i64 k,.pointer (some ⟨q,0,none⟩)] w (GotWd w q (wdE 73 s) (wdL 73 s k.toNat L)):=by
 have H:=hid h;have C:=hid (fun w=>vCe s 1 16777215 w (by unfold maxLen;omega));have EE:=hid (show wdE 73 s=if nB s 1 16777215=true then 0 else 21 by simp [wdE,wdB]);have EL:=hid (show wdL 73 s k.toNat L={L with num:=nV s 1 16777215} by simp [wdL]);generalize wdE 73 s=E at *;generalize wdL 73 s k.toNat L=M at *;generalize nV s 1 16777215=V at *;generalize nB s 1 16777215=b at *
 clear h
 cases b
 · go_enter Tryz.func190,Tryz.ntmps190
   go_wp2_with (go_at_call 203;(with_reducible refine (C.out _).mono ?_);rintro e w1 ⟨rfl,hb1⟩;have B1:=hid hb1;have H1:=hid (H.out.below hb1);clear hb1;obtain ⟨z0,z1,z2,z3,z4,z5,z6,z7,z8,z9,z10,z11,z12,z13,z14,z15,z16⟩:=H1.out.cells;have zf:=H1.out.frozen;have zl:=H1.out.lt);exact bodyPost_ret (v:=.int .i64 21) (by simp [results,Tryz.results190,go_sem]) rfl ⟨by rw [EE.out];rfl,⟨_,_,_,_,_,H1.out.set_num V,fun _=>EL.out.symm⟩,(Ex.of_below B1.out).set 11 _⟩
 · go_enter Tryz.func190,Tryz.ntmps190
   go_wp2_with (go_at_call 203;(with_reducible refine (C.out _).mono ?_);rintro e w1 ⟨rfl,hb1⟩;have B1:=hid hb1;have H1:=hid (H.out.below hb1);clear hb1;obtain ⟨z0,z1,z2,z3,z4,z5,z6,z7,z8,z9,z10,z11,z12,z13,z14,z15,z16⟩:=H1.out.cells;have zf:=H1.out.frozen;have zl:=H1.out.lt);exact bodyPost_ret (v:=.int .i64 0) (by simp [results,Tryz.results190,go_sem]) rfl ⟨by rw [EE.out];rfl,⟨_,_,_,_,_,H1.out.set_num V,fun _=>EL.out.symm⟩,(Ex.of_below B1.out).set 11 _⟩
theorem rword_N (s:List UInt8) (k:Int) (hk:0≤k) (q:Nat) (L:LV) (s1 s2 s3 s4:SlV) (w:World) (h:LBox w q L s1 s2 s3 s4) (hs:s.length≤1000000):
 Calls Tryz.prog 190 #[.int .u8 78,.string (str s),.int .i64 k,.pointer (some ⟨q,0,none⟩)] w (GotWd w q (wdE 78 s) (wdL 78 s k.toNat L)):=by
 have H:=hid h;have C:=hid (fun w=>refName_any (str s) w (by rw [vBa];unfold maxLen;omega) (nmB s) (vGi s));have CN:=hid (refNm_any s k hk q L s1 s2 s3 s4 w h);have EE:=hid (show wdE 78 s=if nmB s=true then 0 else 20 by simp [wdE]);have EL:=hid (show wdL 78 s k.toNat L=nmL s k.toNat L by simp [wdL]);generalize wdE 78 s=E at *;generalize wdL 78 s k.toNat L=M at *;generalize nmL s k.toNat L=N at *
 generalize nmB s=b at *;clear h
 cases b
 · go_enter Tryz.func190,Tryz.ntmps190
   go_wp2_with (go_at_call 201;(with_reducible refine (C.out _).mono ?_);rintro e w1 ⟨rfl,rfl⟩);exact bodyPost_ret (v:=.int .i64 20) (by simp [results,Tryz.results190,go_sem]) rfl ⟨by rw [EE.out];rfl,⟨_,_,_,_,_,H.out,fun g=>by rw [EE.out] at g;cases g⟩,Ex.refl _ _⟩
 · go_enter Tryz.func190,Tryz.ntmps190
   go_wp2_with (first
    |(go_at_call 201;(with_reducible refine (C.out _).mono ?_);rintro e w1 ⟨rfl,rfl⟩)
    |(go_at_call 202;(with_reducible refine CN.out.mono ?_);rintro e w2 ⟨rfl,hl,hx⟩;have HX:=hid hx;have HL:=hid hl;clear hl hx))
   obtain ⟨t1,t2,t3,t4,ht⟩:=HL.out;exact bodyPost_ret (v:=.int .i64 0) (by simp [results,Tryz.results190,go_sem]) rfl ⟨by rw [EE.out];rfl,⟨_,_,_,_,_,ht,fun _=>EL.out.symm⟩,HX.out⟩
theorem FSl.got {w w':World} {q:Nat} {k:IntKind} {A:Option Addr} {n c:Nat} {xs:List Int} (h:ISl w' k A n c xs) (hf:∀ad,A=some ad→w.heap.size≤ad.block) (hq:q<w.heap.size):FSl w' q k ⟨A,n,c⟩ xs:=
 ⟨h,fun ad g=>by have:=hf ad g;omega⟩
theorem rword_A (s:List UInt8) (k:Int) (_hk:0≤k) (q:Nat) (L:LV) (s1 s2 s3 s4:SlV) (w:World) (h:LBox w q L s1 s2 s3 s4) (hs:s.length≤1000000):
 Calls Tryz.prog 190 #[.int .u8 65,.string (str s),.int .i64 k,.pointer (some ⟨q,0,none⟩)] w (GotWd w q (wdE 65 s) (wdL 65 s k.toNat L)):=by
 have H:=hid h;have C:=hid (fun w=>vGk s w (by omega));obtain ⟨m0,m1⟩:=rdV_bd s;have EE:=hid (show wdE 65 s=if (rdB s && decide (0<rdV s))=true then 0 else 21 by simp [wdE,wdB]);have EL:=hid (show wdL 65 s k.toNat L={L with addr:=rdV s} by simp [wdL]);generalize wdE 65 s=E at *;generalize wdL 65 s k.toNat L=M at *;generalize rdV s=V at *;generalize rdB s=b at *;generalize hd:decide (0<V)=d at *
 clear h
 cases b
 · go_enter Tryz.func190,Tryz.ntmps190
   go_wp2_with (go_at_call 207;(with_reducible refine (C.out _).mono ?_);rintro e w1 ⟨rfl,hb1⟩;have B1:=hid hb1;have H1:=hid (H.out.below hb1);clear hb1;obtain ⟨z0,z1,z2,z3,z4,z5,z6,z7,z8,z9,z10,z11,z12,z13,z14,z15,z16⟩:=H1.out.cells;have zf:=H1.out.frozen;have zl:=H1.out.lt);exact bodyPost_ret (v:=.int .i64 21) (by simp [results,Tryz.results190,go_sem]) rfl ⟨by rw [EE.out];rfl,⟨_,_,_,_,_,H1.out.set_addr V,fun _=>EL.out.symm⟩,(Ex.of_below B1.out).set 8 _⟩
 · cases d
   · go_enter Tryz.func190,Tryz.ntmps190
     go_wp2_with (go_at_call 207;(with_reducible refine (C.out _).mono ?_);rintro e w1 ⟨rfl,hb1⟩;have B1:=hid hb1;have H1:=hid (H.out.below hb1);clear hb1;obtain ⟨z0,z1,z2,z3,z4,z5,z6,z7,z8,z9,z10,z11,z12,z13,z14,z15,z16⟩:=H1.out.cells;have zf:=H1.out.frozen;have zl:=H1.out.lt);exact bodyPost_ret (v:=.int .i64 21) (by simp [results,Tryz.results190,go_sem]) rfl ⟨by rw [EE.out];rfl,⟨_,_,_,_,_,H1.out.set_addr V,fun _=>EL.out.symm⟩,(Ex.of_below B1.out).set 8 _⟩
   · go_enter Tryz.func190,Tryz.ntmps190
     go_wp2_with (go_at_call 207;(with_reducible refine (C.out _).mono ?_);rintro e w1 ⟨rfl,hb1⟩;have B1:=hid hb1;have H1:=hid (H.out.below hb1);clear hb1;obtain ⟨z0,z1,z2,z3,z4,z5,z6,z7,z8,z9,z10,z11,z12,z13,z14,z15,z16⟩:=H1.out.cells;have zf:=H1.out.frozen;have zl:=H1.out.lt);exact bodyPost_ret (v:=.int .i64 0) (by simp [results,Tryz.results190,go_sem]) rfl ⟨by rw [EE.out];rfl,⟨_,_,_,_,_,H1.out.set_addr V,fun _=>EL.out.symm⟩,(Ex.of_below B1.out).set 8 _⟩
theorem rword_L (s:List UInt8) (k:Int) (_hk:0≤k) (q:Nat) (L:LV) (s1 s2 s3 s4:SlV) (w:World) (h:LBox w q L s1 s2 s3 s4) (hs:s.length≤1000000):
 Calls Tryz.prog 190 #[.int .u8 76,.string (str s),.int .i64 k,.pointer (some ⟨q,0,none⟩)] w (GotWd w q (wdE 76 s) (wdL 76 s k.toNat L)):=by
 have H:=hid h;have C:=hid (fun w=>vHp s w hs);have hne:=lsA_some (s:=s);have EE:=hid (show wdE 76 s=if (lsB rdA s && decide (0<(lsV rdA s).getD 0 0))=true then 0 else 21 by simp [wdE,wdB]);have EL:=hid (show wdL 76 s k.toNat L={L with addrs:=lsV rdA s} by simp [wdL]);generalize wdE 76 s=E at *;generalize wdL 76 s k.toNat L=M at *;generalize lsV rdA s=V at *;generalize lsB rdA s=b at *
 have hq:=h.lt;clear h
 cases b
 · go_enter Tryz.func190,Tryz.ntmps190
   go_wp2_with (go_at_call 208;(with_reducible refine (C.out _).mono ?_);rintro e w1 ⟨A,n,c,rfl,g1,hb1,g3⟩;have B1:=hid hb1;have F1:=hid (FSl.got g1 g3 hq);have H1:=hid (H.out.below hb1);clear hb1 g1 g3;obtain ⟨z0,z1,z2,z3,z4,z5,z6,z7,z8,z9,z10,z11,z12,z13,z14,z15,z16⟩:=H1.out.cells;have zf:=H1.out.frozen;have zl:=H1.out.lt);exact bodyPost_ret (v:=.int .i64 21) (by simp [results,Tryz.results190,go_sem]) rfl ⟨by rw [EE.out];rfl,⟨_,_,_,_,_,H1.out.set_addrs ⟨A,n,c⟩ V F1.out,fun _=>EL.out.symm⟩,(Ex.of_below B1.out).set 16 _⟩
 · have hn:=hne rfl
   clear hne;generalize hv:V.getD 0 0=v at *;have hv2:=hid hv;clear hv;generalize hd:decide (0<v)=d at *
   cases d
   · go_enter Tryz.func190,Tryz.ntmps190
     go_wp2_with (go_at_call 208;(with_reducible refine (C.out _).mono ?_);rintro e w1 ⟨A,n,c,rfl,g1,hb1,g3⟩;have B1:=hid hb1;have F1:=hid (FSl.got g1 g3 hq);have H1:=hid (H.out.below hb1);have gl:=g1.len;obtain ⟨b,off,hA,hb,hc⟩:=g1.2.2.2 (by omega);subst hA;have hbq:b≠q:=(by have:=g3 _ rfl;simp at this;omega);have hc0:=hc 0 (by omega);rw [hv2.out] at hc0;have hcs:∀u:Value,(w1.setCell ⟨q,16,none⟩ u).cell? ⟨b,off+0,none⟩=some (.int .u32 v):=fun u=>(World.cell?_setCell_other _ _ _ _ (by intro e;injection e with e1 _;exact hbq e1.symm)).trans hc0;simp only [Nat.add_zero] at hcs;have hn1:(0:Int)<(n:Int):=(by omega);clear hc hc0;clear hb1 g1 g3;obtain ⟨z0,z1,z2,z3,z4,z5,z6,z7,z8,z9,z10,z11,z12,z13,z14,z15,z16⟩:=H1.out.cells;have zf:=H1.out.frozen;have zl:=H1.out.lt)
     exact bodyPost_ret (v:=.int .i64 21) (by simp [results,Tryz.results190,go_sem]) rfl ⟨by rw [EE.out];rfl,⟨_,_,_,_,_,H1.out.set_addrs ⟨some ⟨b,off,none⟩,n,c⟩ V F1.out,fun _=>EL.out.symm⟩,(Ex.of_below B1.out).set 16 _⟩
   · go_enter Tryz.func190,Tryz.ntmps190
     go_wp2_with (go_at_call 208;(with_reducible refine (C.out _).mono ?_);rintro e w1 ⟨A,n,c,rfl,g1,hb1,g3⟩;have B1:=hid hb1;have F1:=hid (FSl.got g1 g3 hq);have H1:=hid (H.out.below hb1);have gl:=g1.len;obtain ⟨b,off,hA,hb,hc⟩:=g1.2.2.2 (by omega);subst hA;have hbq:b≠q:=(by have:=g3 _ rfl;simp at this;omega);have hc0:=hc 0 (by omega);rw [hv2.out] at hc0;have hcs:∀u:Value,(w1.setCell ⟨q,16,none⟩ u).cell? ⟨b,off+0,none⟩=some (.int .u32 v):=fun u=>(World.cell?_setCell_other _ _ _ _ (by intro e;injection e with e1 _;exact hbq e1.symm)).trans hc0;simp only [Nat.add_zero] at hcs;have hn1:(0:Int)<(n:Int):=(by omega);clear hc hc0;clear hb1 g1 g3;obtain ⟨z0,z1,z2,z3,z4,z5,z6,z7,z8,z9,z10,z11,z12,z13,z14,z15,z16⟩:=H1.out.cells;have zf:=H1.out.frozen;have zl:=H1.out.lt)
     exact bodyPost_ret (v:=.int .i64 0) (by simp [results,Tryz.results190,go_sem]) rfl ⟨by rw [EE.out];rfl,⟨_,_,_,_,_,H1.out.set_addrs ⟨some ⟨b,off,none⟩,n,c⟩ V F1.out,fun _=>EL.out.symm⟩,(Ex.of_below B1.out).set 16 _⟩
theorem kind_port (w:World):Calls Tryz.prog 189 #[.string (str [112,111,114,116])] w fun e w'=>e=.returned (.int .i64 2)∧Below w.heap.size w w':=by
 go_enter Tryz.func189,Tryz.ntmps189
 go_wp2;refine wp_loop_rounds 2 ?_;rw [rounds_succ];go_wp2;rw [rounds_succ];go_wp2;go_ret;exact ⟨rfl,(Below.refl _ _).alloc (Nat.le_refl _) _⟩
theorem kind_link (w:World):Calls Tryz.prog 189 #[.string (str [108,105,110,107])] w fun e w'=>e=.returned (.int .i64 3)∧Below w.heap.size w w':=by
 go_enter Tryz.func189,Tryz.ntmps189
 go_wp2;refine wp_loop_rounds 3 ?_;rw [rounds_succ];go_wp2;rw [rounds_succ];go_wp2;rw [rounds_succ];go_wp2;go_ret;exact ⟨rfl,(Below.refl _ _).alloc (Nat.le_refl _) _⟩
theorem kind_static (w:World):Calls Tryz.prog 189 #[.string (str [115,116,97,116,105,99])] w fun e w'=>e=.returned (.int .i64 4)∧Below w.heap.size w w':=by
 go_enter Tryz.func189,Tryz.ntmps189
 go_wp2;refine wp_loop_rounds 4 ?_;rw [rounds_succ];go_wp2;rw [rounds_succ];go_wp2;rw [rounds_succ];go_wp2;rw [rounds_succ];go_wp2;go_ret;exact ⟨rfl,(Below.refl _ _).alloc (Nat.le_refl _) _⟩
theorem kind_vtep (w:World):Calls Tryz.prog 189 #[.string (str [118,116,101,112])] w fun e w'=>e=.returned (.int .i64 5)∧Below w.heap.size w w':=by
 go_enter Tryz.func189,Tryz.ntmps189
 go_wp2;refine wp_loop_rounds 5 ?_;rw [rounds_succ];go_wp2;rw [rounds_succ];go_wp2;rw [rounds_succ];go_wp2;rw [rounds_succ];go_wp2;rw [rounds_succ];go_wp2;go_ret;exact ⟨rfl,(Below.refl _ _).alloc (Nat.le_refl _) _⟩
theorem kind_vni (w:World):Calls Tryz.prog 189 #[.string (str [118,110,105])] w fun e w'=>e=.returned (.int .i64 6)∧Below w.heap.size w w':=by
 go_enter Tryz.func189,Tryz.ntmps189
 go_wp2;refine wp_loop_rounds 6 ?_;rw [rounds_succ];go_wp2;rw [rounds_succ];go_wp2;rw [rounds_succ];go_wp2;rw [rounds_succ];go_wp2;rw [rounds_succ];go_wp2;rw [rounds_succ];go_wp2;go_ret;exact ⟨rfl,(Below.refl _ _).alloc (Nat.le_refl _) _⟩
theorem kind_flood (w:World):Calls Tryz.prog 189 #[.string (str [102,108,111,111,100])] w fun e w'=>e=.returned (.int .i64 7)∧Below w.heap.size w w':=by
 go_enter Tryz.func189,Tryz.ntmps189
 go_wp2;refine wp_loop_rounds 7 ?_;rw [rounds_succ];go_wp2;rw [rounds_succ];go_wp2;rw [rounds_succ];go_wp2;rw [rounds_succ];go_wp2;rw [rounds_succ];go_wp2;rw [rounds_succ];go_wp2;rw [rounds_succ];go_wp2;go_ret;exact ⟨rfl,(Below.refl _ _).alloc (Nat.le_refl _) _⟩
theorem form_device (A:Option Addr) (n c:Nat) (ws:List (List UInt8)) (w:World) (h:SSl w A n c ws) (hn:0<n) (e:wat ws 0=[100,101,118,105,99,101]):Calls Tryz.prog 188 #[.slice A n c] w fun e w'=>e=.returned (.string (str [78,80,77]))∧w=w':=by
 have hle:=h.le;obtain ⟨b,off,rfl,hb,hc⟩:=h.at_ (by omega);have c0:w.cell? ⟨b,off,none⟩=some (.string (str (wat ws 0))):=hc 0 (by omega)
 have j0:(0:Int)<(n:Int):=by omega
 rw [e] at c0;clear h hc e
 go_enter Tryz.func188,Tryz.ntmps188
 go_wp2;go_ret;exact ⟨rfl,rfl⟩
theorem form_vtep (A:Option Addr) (n c:Nat) (ws:List (List UInt8)) (w:World) (h:SSl w A n c ws) (hn:0<n) (e:wat ws 0=[118,116,101,112]):Calls Tryz.prog 188 #[.slice A n c] w fun e w'=>e=.returned (.string (str [78,65]))∧w=w':=by
 have hle:=h.le;obtain ⟨b,off,rfl,hb,hc⟩:=h.at_ (by omega);have c0:w.cell? ⟨b,off,none⟩=some (.string (str (wat ws 0))):=hc 0 (by omega)
 have j0:(0:Int)<(n:Int):=by omega
 rw [e] at c0;clear h hc e
 go_enter Tryz.func188,Tryz.ntmps188
 go_wp2;go_ret;exact ⟨rfl,rfl⟩
theorem form_vni (A:Option Addr) (n c:Nat) (ws:List (List UInt8)) (w:World) (h:SSl w A n c ws) (hn:0<n) (e:wat ws 0=[118,110,105]):Calls Tryz.prog 188 #[.slice A n c] w fun e w'=>e=.returned (.string (str [78,86,73]))∧w=w':=by
 have hle:=h.le;obtain ⟨b,off,rfl,hb,hc⟩:=h.at_ (by omega);have c0:w.cell? ⟨b,off,none⟩=some (.string (str (wat ws 0))):=hc 0 (by omega)
 have j0:(0:Int)<(n:Int):=by omega
 rw [e] at c0;clear h hc e
 go_enter Tryz.func188,Tryz.ntmps188
 go_wp2;go_ret;exact ⟨rfl,rfl⟩
theorem form_flood (A:Option Addr) (n c:Nat) (ws:List (List UInt8)) (w:World) (h:SSl w A n c ws) (hn:0<n) (e:wat ws 0=[102,108,111,111,100]):Calls Tryz.prog 188 #[.slice A n c] w fun e w'=>e=.returned (.string (str [78,73,76]))∧w=w':=by
 have hle:=h.le;obtain ⟨b,off,rfl,hb,hc⟩:=h.at_ (by omega);have c0:w.cell? ⟨b,off,none⟩=some (.string (str (wat ws 0))):=hc 0 (by omega)
 have j0:(0:Int)<(n:Int):=by omega
 rw [e] at c0;clear h hc e
 go_enter Tryz.func188,Tryz.ntmps188
 go_wp2;go_ret;exact ⟨rfl,rfl⟩
theorem runS_at {f:List UInt8} {ws:List (List UInt8)} {i kn:Nat} {L:LV} (h:i<f.length) (g:i+1<ws.length):
 vDy (f.drop i) (ws.drop (i+1)) kn L=if wdE (f.getD i 0) (wat ws (i+1))=0 then vDy (f.drop (i+1)) (ws.drop (i+1+1)) (if f.getD i 0=78 then kn+1 else kn) (wdL (f.getD i 0) (wat ws (i+1)) kn L) else (wdE (f.getD i 0) (wat ws (i+1)),L):=by
 have e1:f.drop i=f.getD i 0 :: f.drop (i+1):=by rw [List.drop_eq_getElem_cons h];simp [List.getD,List.getElem?_eq_getElem h]
 have e2:ws.drop (i+1)=wat ws (i+1) :: ws.drop (i+1+1):=by rw [List.drop_eq_getElem_cons g];simp [wat,List.getD,List.getElem?_eq_getElem g]
 rw [e1,e2,vDy]
theorem runS_end {f:List UInt8} {ws:List (List UInt8)} {i kn:Nat} {L:LV} (h:f.length≤i):vDy (f.drop i) ws kn L=(0,L):=by
 rw [List.drop_eq_nil_of_le h]
 cases ws<;>rfl
def put17 (w:World) (q:Nat) (f:Nat→Value):World:=
 ((((((((((((((((w.setCell ⟨q,0,none⟩ (f 0)).setCell ⟨q,1,none⟩ (f 1)).setCell ⟨q,2,none⟩ (f 2)).setCell ⟨q,3,none⟩ (f 3)).setCell ⟨q,4,none⟩ (f 4)).setCell ⟨q,5,none⟩ (f 5)).setCell ⟨q,6,none⟩ (f 6)).setCell ⟨q,7,none⟩ (f 7)).setCell ⟨q,8,none⟩ (f 8)).setCell ⟨q,9,none⟩ (f 9)).setCell ⟨q,10,none⟩ (f 10)).setCell ⟨q,11,none⟩ (f 11)).setCell ⟨q,12,none⟩ (f 12)).setCell ⟨q,13,none⟩ (f 13)).setCell ⟨q,14,none⟩ (f 14)).setCell ⟨q,15,none⟩ (f 15)).setCell ⟨q,16,none⟩ (f 16)
theorem put17_box {w:World} {q:Nat} {f g:Nat→Value} (h:BoxF w q 17 g):BoxF (put17 w q f) q 17 f:=by
 unfold put17;have H:=((((((((((((((((h.set 0 (by omega) (f 0)).set 1 (by omega) (f 1)).set 2 (by omega) (f 2)).set 3 (by omega) (f 3)).set 4 (by omega) (f 4)).set 5 (by omega) (f 5)).set 6 (by omega) (f 6)).set 7 (by omega) (f 7)).set 8 (by omega) (f 8)).set 9 (by omega) (f 9)).set 10 (by omega) (f 10)).set 11 (by omega) (f 11)).set 12 (by omega) (f 12)).set 13 (by omega) (f 13)).set 14 (by omega) (f 14)).set 15 (by omega) (f 15)).set 16 (by omega) (f 16)
 exact H.is (fun i hi=>match i,hi with|0,_|1,_|2,_|3,_|4,_|5,_|6,_|7,_|8,_|9,_|10,_|11,_|12,_|13,_|14,_|15,_|16,_=>rfl|i+17,h=>absurd h (by omega))
def LNew (B:Nat) (s1 s2 s3 s4:SlV):Prop:=(∀ad,s1.A=some ad→B≤ad.block)∧(∀ad,s2.A=some ad→B≤ad.block)∧(∀ad,s3.A=some ad→B≤ad.block)∧∀ad,s4.A=some ad→B≤ad.block
theorem LNew.nil (B:Nat):LNew B SlV.nil SlV.nil SlV.nil SlV.nil:=⟨fun _ h=>(by cases h),fun _ h=>(by cases h),fun _ h=>(by cases h),fun _ h=>(by cases h)⟩
theorem LBox.new {w:World} {q B:Nat} {L:LV} {s1 s2 s3 s4:SlV} (h:LBox w q L s1 s2 s3 s4) (hB:B≤q):LNew B s1 s2 s3 s4:=by
 have key:∀(k:IntKind) (s:SlV) (xs:List Int),FSl w q k s xs→∀ad,s.A=some ad→B≤ad.block:=fun k s xs f ad e=>Nat.le_of_lt (Nat.lt_of_le_of_lt hB (f.2 ad e))
 exact ⟨key _ _ _ h.2.1,key _ _ _ h.2.2.1,key _ _ _ h.2.2.2.1,key _ _ _ h.2.2.2.2⟩
def vGg (w:World) (L:LV) (E:Int) (e:Ending) (w':World):Prop:=
 ∃s1 s2 s3 s4,e=.returned (.tuple #[vAv L s1 s2 s3 s4,.int .i64 E])∧LRead w' L s1 s2 s3 s4∧LNew w.heap.size s1 s2 s3 s4∧Below w.heap.size w w'
theorem vIj (tmps:Array Value) (w:World) (q:Nat) (E:Int) (L:LV) (s1 s2 s3 s4:SlV) (h4:tmps[4]?.getD undef=.pointer (some ⟨q,0,none⟩)) (h5:tmps[5]?.getD undef=.int .i64 E) (hb:BoxF w q 17 (lc L s1 s2 s3 s4)):
 (results Tryz.f178 tmps).run Tryz.prog w=.ok (.tuple #[vAv L s1 s2 s3 s4,.int .i64 E]) w:=by
 have t0:w.cell? ⟨q,0,none⟩=some (.int .i64 L.row):=hb.cell 0 (by omega);have t1:w.cell? ⟨q,1,none⟩=some (.int .i64 L.kind):=hb.cell 1 (by omega);have t2:w.cell? ⟨q,2,none⟩=some (.string (str L.dev)):=hb.cell 2 (by omega);have t3:w.cell? ⟨q,3,none⟩=some (.string (str L.port)):=hb.cell 3 (by omega);have t4:w.cell? ⟨q,4,none⟩=some (.string (str L.peer)):=hb.cell 4 (by omega);have t5:w.cell? ⟨q,5,none⟩=some (.string (str L.far)):=hb.cell 5 (by omega)
 have t6:w.cell? ⟨q,6,none⟩=some (.string (str L.name)):=hb.cell 6 (by omega);have t7:w.cell? ⟨q,7,none⟩=some (.int .u64 L.mac):=hb.cell 7 (by omega);have t8:w.cell? ⟨q,8,none⟩=some (.int .u32 L.addr):=hb.cell 8 (by omega);have t9:w.cell? ⟨q,9,none⟩=some (.int .i64 L.bits):=hb.cell 9 (by omega);have t10:w.cell? ⟨q,10,none⟩=some (.int .i64 L.vlan):=hb.cell 10 (by omega);have t11:w.cell? ⟨q,11,none⟩=some (.int .i64 L.num):=hb.cell 11 (by omega)
 have t12:w.cell? ⟨q,12,none⟩=some (.int .i64 L.cost):=hb.cell 12 (by omega);have t13:w.cell? ⟨q,13,none⟩=some (.slice s1.A s1.n s1.c):=hb.cell 13 (by omega);have t14:w.cell? ⟨q,14,none⟩=some (.slice s2.A s2.n s2.c):=hb.cell 14 (by omega);have t15:w.cell? ⟨q,15,none⟩=some (.slice s3.A s3.n s3.c):=hb.cell 15 (by omega);have t16:w.cell? ⟨q,16,none⟩=some (.slice s4.A s4.n s4.c):=hb.cell 16 (by omega)
 clear hb;simp [results,Tryz.results178,go_sem,h4,h5,t0,t1,t2,t3,t4,t5,t6,t7,t8,t9,t10,t11,t12,t13,t14,t15,t16,vAv]
theorem new_box (w:World) (row kind:Int) (T:TypeId):BoxF (w.alloc (.cells #[.int .i64 row,.int .i64 kind,.string ⟨#[]⟩,.string ⟨#[]⟩,.string ⟨#[]⟩,.string ⟨#[]⟩,.string ⟨#[]⟩,.int .u64 0,.int .u32 0,.int .i64 0,.int .i64 0,.int .i64 0,.int .i64 0,.slice none 0 0,.slice none 0 0,.slice none 0 0,.slice none 0 0] T)) w.heap.size 17 (lc (LV.new row kind) SlV.nil SlV.nil SlV.nil SlV.nil):=by
 refine ⟨fun j hj=>?_,fun o=>by simp⟩
 match j,hj with
 |0,_|1,_|2,_|3,_|4,_|5,_|6,_|7,_|8,_|9,_|10,_|11,_|12,_|13,_|14,_|15,_|16,_=>simp [lc,LV.new,SlV.nil,SlV.val,str]
 |j+17,h=>exact absurd h (by omega)
def NSl (w:World) (F:Nat→Prop) (k:IntKind) (s:SlV) (xs:List Int):Prop:=ISl w k s.A s.n s.c xs∧(0<s.n→∀ad,s.A=some ad→F ad.block)
theorem NSl.keep {w w':World} {F F':Nat→Prop} {k:IntKind} {s:SlV} {xs:List Int} (h:NSl w F k s xs) (hb:∀b,F b→w'.heap[b]?=w.heap[b]?) (hF:∀b,F b→F' b):NSl w' F' k s xs:=by
 refine ⟨⟨h.1.1,h.1.2.1,h.1.2.2.1,fun hn=>?_⟩,fun hn ad e=>hF _ (h.2 hn ad e)⟩;obtain ⟨b,off,e,hl,hc⟩:=h.1.2.2.2 hn;have hb2:=hb b (h.2 hn _ e);exact ⟨b,off,e,vIe hb2 hl,fun j hj=>(World.cell?_of_block (w:=w) (a:=⟨b,off+j,none⟩) hb2).trans (hc j hj)⟩
def vEl (L:LV) (s1 s2 s3 s4:SlV):List Value:=[.int .i64 L.row,.int .i64 L.kind,.string (str L.dev),.string (str L.port),.string (str L.peer),.string (str L.far),.string (str L.name),.int .u64 L.mac,.int .u32 L.addr,.int .i64 L.bits,.int .i64 L.vlan,.int .i64 L.num,.int .i64 L.cost,.slice s1.A s1.n s1.c,.slice s2.A s2.n s2.c,.slice s3.A s3.n s3.c,.slice s4.A s4.n s4.c]
def lineR:Rdr LV where
 n:=17
 rd:=fun w F vs L=>∃s1 s2 s3 s4,vs=vEl L s1 s2 s3 s4∧NSl w F .i64 s1 L.tagged∧NSl w F .i64 s2 L.imports∧NSl w F .i64 s3 L.exports∧NSl w F .u32 s4 L.addrs
 len:=by rintro w F vs L ⟨s1,s2,s3,s4,rfl,_⟩;rfl
 one:=by rintro w F vs L ⟨s1,s2,s3,s4,rfl,_⟩ v hv;simp [vEl] at hv;rcases hv with rfl|rfl|rfl|rfl|rfl|rfl|rfl|rfl|rfl|rfl|rfl|rfl|rfl|rfl|rfl|rfl|rfl<;>rfl
 keep:=by rintro w w' F F' vs L ⟨s1,s2,s3,s4,rfl,h1,h2,h3,h4⟩ hb hF;exact ⟨s1,s2,s3,s4,rfl,h1.keep hb hF,h2.keep hb hF,h3.keep hb hF,h4.keep hb hF⟩
theorem line_read {w:World} {F:Nat→Prop} {vs:List Value} {L:LV} (h:lineR.rd w F vs L):∃s1 s2 s3 s4,vs=vEl L s1 s2 s3 s4∧LRead w L s1 s2 s3 s4:=by
 obtain ⟨s1,s2,s3,s4,rfl,h1,h2,h3,h4⟩:=h;exact ⟨s1,s2,s3,s4,rfl,h1.1,h2.1,h3.1,h4.1⟩
theorem Tryz.info37:(Tryz.prog.info? 37).map (fun i=>(i.zero,i.size))=some (some (vAv LV.zero SlV.nil SlV.nil SlV.nil SlV.nil),17):=by kernel_rfl
theorem vEc {c:UInt8} {f s:List UInt8} {ws:List (List UInt8)} {k:Nat} {L:LV} (h:(vDy (c :: f) (s :: ws) k L).1=0):
 wdE c s=0∧vDy (c :: f) (s :: ws) k L=vDy f ws (if c=78 then k+1 else k) (wdL c s k L):=by
 rw [vDy] at h ⊢
 by_cases e:wdE c s=0
 · exact ⟨e,if_pos e⟩
 · rw [if_neg e] at h
   exact absurd h e
theorem shAddr_bd (l:List UInt8):0≤rdV l∧rdV l≤4294967295:=by
 unfold rdV
 cases h:rdF l with
 |none=>exact ⟨Int.le_refl _,by decide⟩
 |some a=>have:=(rdF_iff.1 h).1;show 0≤((a:Nat):Int)∧((a:Nat):Int)≤_;omega
theorem nB_yes {s:List UInt8} {lo hi:Int} (h:nB s lo hi=true):lo≤nV s lo hi∧nV s lo hi≤hi:=by
 unfold nB at h;obtain ⟨n,hn⟩:=Option.isSome_iff_exists.1 h
 have:=vHa.1 hn
 unfold nV;rw [hn];exact ⟨this.2.2.1,this.2.2.2⟩
theorem lsA_ris {s:List UInt8} (h:lsB rdA s=true):vBs (lsV rdA s) 0 4294967295=true:=by
 unfold lsB at h;obtain ⟨xs,hx⟩:=Option.isSome_iff_exists.1 h;rw [(ls_yes hx).1];unfold rlF at hx
 cases ha:vBr rdA (vAh s) with
 |none=>rw [ha] at hx;cases hx
 |some ys=>
  rw [ha] at hx
  by_cases hr:risB ys=true
  · have e:ys=xs:=by
     have:(if risB ys=true then some ys else none)=some xs:=hx
     rw [if_pos hr] at this;injection this
    subst e;unfold vBs;rw [hr,Bool.true_and,inB_iff];intro x hx2;obtain ⟨p,hp⟩:=allRd_all ha x hx2
    have:=rdA_yes hp
    rw [←this.1];exact shAddr_bd p
  · have:(if risB ys=true then some ys else none)=some xs:=hx
    rw [if_neg hr] at this
    cases this
theorem we_N {s:List UInt8} (h:wdE 78 s=0):nmB s=true:=by
 have e:wdE 78 s=if nmB s=true then 0 else 20:=rfl;rw [e] at h
 by_cases g:nmB s=true
 · exact g
 · rw [if_neg g] at h;cases h
theorem we_B {b:Bool} (h:(if b=true then (0:Int) else 21)=0):b=true:=by
 cases b with
 |true=>rfl
 |false=>cases h
theorem we_V {s:List UInt8} (h:wdE 86 s=0):1≤nV s 1 4094∧nV s 1 4094≤4094:=nB_yes (we_B (b:=nB s 1 4094) h)
theorem we_I {s:List UInt8} (h:wdE 73 s=0):1≤nV s 1 16777215∧nV s 1 16777215≤16777215:=nB_yes (we_B (b:=nB s 1 16777215) h)
theorem we_A {s:List UInt8} (h:wdE 65 s=0):0<rdV s∧rdV s≤4294967295:=by
 have g:=we_B (b:=rdB s && decide (0<rdV s)) h;rw [Bool.and_eq_true,decide_eq_true_eq] at g;exact ⟨g.2,(shAddr_bd s).2⟩
theorem we_L {s:List UInt8} (h:wdE 76 s=0):vBs (lsV rdA s) 0 4294967295=true∧0<(lsV rdA s).getD 0 0:=by
 have g:=we_B (b:=lsB rdA s && decide (0<(lsV rdA s).getD 0 0)) h;rw [Bool.and_eq_true,decide_eq_true_eq] at g;exact ⟨lsA_ris g.1,g.2⟩
def Kd5 (row:Int) (L:LV):Prop:=∃s a,L={LV.new row 5 with dev:=s,addr:=a}∧nmB s=true∧(0<a∧a≤4294967295)
def Kd6 (row:Int) (L:LV):Prop:=∃s v a,L={LV.new row 6 with dev:=s,vlan:=v,num:=a}∧nmB s=true∧(1≤v∧v≤4094)∧(1≤a∧a≤16777215)
def Kd7 (row:Int) (L:LV):Prop:=∃s a x,L={LV.new row 7 with dev:=s,num:=a,addrs:=x}∧nmB s=true∧(1≤a∧a≤16777215)∧(vBs x 0 4294967295=true∧0<x.getD 0 0)
theorem rk5 (row:Int) (w1 w2:List UInt8) (h:(vDy [78,65] [w1,w2] 0 (LV.new row 5)).1=0):Kd5 row (vDy [78,65] [w1,w2] 0 (LV.new row 5)).2:=by
 obtain ⟨e1,r1⟩:=vEc h;rw [r1] at h ⊢;obtain ⟨e2,r2⟩:=vEc h;rw [r2] at h ⊢;exact ⟨w1,rdV w2,rfl,we_N e1,we_A e2⟩
theorem rk6 (row:Int) (w1 w2 w3:List UInt8) (h:(vDy [78,86,73] [w1,w2,w3] 0 (LV.new row 6)).1=0):Kd6 row (vDy [78,86,73] [w1,w2,w3] 0 (LV.new row 6)).2:=by
 obtain ⟨e1,r1⟩:=vEc h;rw [r1] at h ⊢;obtain ⟨e2,r2⟩:=vEc h;rw [r2] at h ⊢;obtain ⟨e3,r3⟩:=vEc h;rw [r3] at h ⊢;exact ⟨w1,nV w2 1 4094,nV w3 1 16777215,rfl,we_N e1,we_V e2,we_I e3⟩
theorem rk7 (row:Int) (w1 w2 w3:List UInt8) (h:(vDy [78,73,76] [w1,w2,w3] 0 (LV.new row 7)).1=0):Kd7 row (vDy [78,73,76] [w1,w2,w3] 0 (LV.new row 7)).2:=by
 obtain ⟨e1,r1⟩:=vEc h;rw [r1] at h ⊢;obtain ⟨e2,r2⟩:=vEc h;rw [r2] at h ⊢;obtain ⟨e3,r3⟩:=vEc h;rw [r3] at h ⊢;exact ⟨w1,nV w2 1 16777215,lsV rdA w3,rfl,we_N e1,we_I e2,we_L e3⟩
theorem fm_port7 {ws:List (List UInt8)} (p:wat ws 0=sPort) (r:ws.length=7) (g:¬wat ws 4=vDe):fmV ws=[78,78,67,75,87,84]:=by
 have h0:¬ws=[]:=by intro e;subst e;cases r
 have k:kdV (wat ws 0)=2:=by rw [p];decide +kernel
 unfold fmV;rw [if_neg h0,if_neg (by rw [k];decide),if_neg (by rw [k];decide),if_neg (by rw [k];decide),if_neg (by rw [k];decide),if_neg (by rw [k];decide),if_neg (by rw [k];decide),if_neg (by rw [k];decide),if_neg (by rw [k];decide),if_pos k,if_pos ⟨r,g⟩]
def exW2:List (List UInt8):=[[112,111,114,116],[115,119,49],[112,49],[52],[116,114,117,110,107],[49,48],[49,48,44,50,48]]
def exL1:LV:={LV.new 7 2 with dev:=[115,119,49],port:=[112,49],cost:=4,vlan:=10}
theorem st_itoa10:Lib.itoa 10=[49,48]:=by rw [show (10:Int)=((10:Nat):Int) from rfl,vFt,vEj (by omega),vBt (by omega)];rfl
theorem st_itoa20:Lib.itoa 20=[50,48]:=by rw [show (20:Int)=((20:Nat):Int) from rfl,vFt,vEj (by omega),vBt (by omega)];rfl
theorem st_itoa4:Lib.itoa 4=[52]:=by rw [show (4:Int)=((4:Nat):Int) from rfl,vFt,vBt (by omega)];rfl
theorem st_n10:nF [49,48] 1 4094=some 10:=vHa.2 ⟨st_itoa10,by decide,by omega,by omega⟩
theorem st_n20:nF [50,48] 1 4094=some 20:=vHa.2 ⟨st_itoa20,by decide,by omega,by omega⟩
theorem st_n4:nF [52] 1 65535=some 4:=vHa.2 ⟨st_itoa4,by decide,by omega,by omega⟩
theorem st_list:rlF (rdI 1 4094) [49,48,44,50,48]=some [10,20]:=by
 refine rlF_yes ?_ (by decide);rw [show vAh [49,48,44,50,48]=[[49,48],[50,48]] by decide];simp [vBr,rdI,st_n10,st_n20]
theorem st_sw1:nmB [115,119,49]=true:=(vGi _).2 ⟨by decide,by decide,⟨by decide,by decide⟩,fun j hj=>by
 have hj2:j<3:=hj
 have:j=0∨j=1∨j=2:=by omega
 rcases this with rfl|rfl|rfl
 · exact .inl ⟨by decide,by decide⟩
 · exact .inl ⟨by decide,by decide⟩
 · exact .inr ⟨by decide,by decide⟩⟩
theorem st_p1:nmB [112,49]=true:=(vGi _).2 ⟨by decide,by decide,⟨by decide,by decide⟩,fun j hj=>by
 have hj2:j<2:=hj
 have:j=0∨j=1:=by omega
 rcases this with rfl|rfl
 · exact .inl ⟨by decide,by decide⟩
 · exact .inr ⟨by decide,by decide⟩⟩
theorem vEd {c:UInt8} {f s:List UInt8} {ws:List (List UInt8)} {k:Nat} {L:LV} (h:wdE c s=0):vDy (c :: f) (s :: ws) k L=vDy f ws (if c=78 then k+1 else k) (wdL c s k L):=by rw [vDy,if_pos h]
theorem wdE_N {s:List UInt8} (h:nmB s=true):wdE 78 s=0:=by show (if nmB s=true then (0:Int) else 20)=0;exact if_pos h
theorem wdE_num {c:UInt8} {s:List UInt8} {b:Bool} (e:wdE c s=if b=true then 0 else 21) (h:b=true):wdE c s=0:=by rw [e,if_pos h]
theorem wdE_K {s:List UInt8} (h:s=vDe∨s=vEy):wdE 75 s=0:=by
 have e:wdE 75 s=if s=vDe∨s=vEy then 0 else 20:=rfl;rw [e,if_pos h]
theorem nB_of {s:List UInt8} {lo hi n:Int} (h:nF s lo hi=some n):nB s lo hi=true∧nV s lo hi=n:=by unfold nB nV;rw [h];exact ⟨rfl,rfl⟩
theorem rd_of {ws:List (List UInt8)} {row:Int} {F:List UInt8} (hf:fmV ws=F) (h0:F≠[]) (h1:ws.length=F.length+1) {k:Int} (hk:kdV (wat ws 0)=k) {E:Int} {L:LV} (hr:vDy F (ws.drop 1) 0 (LV.new row k)=(E,L)):
 rdE ws row=(if E=0 then (if L.kind=2∧mbB L=false then 21 else 0) else E)∧rdL ws row=if rdE ws row=0 then L else LV.zero:=by
 subst hf;have e0:ltV ws=fmV ws:=if_pos ⟨h0,h1⟩
 constructor
 · unfold rdE
   rw [e0,if_neg h0,hk,hr]
 · unfold rdL
   rw [e0,hk,hr]
theorem ex2_run:vDy [78,78,67,75,87,84] (exW2.drop 1) 0 (LV.new 7 2)=(0,{exL1 with tagged:=[10,20]}):=by
 show vDy [78,78,67,75,87,84] [[115,119,49],[112,49],[52],[116,114,117,110,107],[49,48],[49,48,44,50,48]] 0 (LV.new 7 2)=_
 have c4:=nB_of st_n4;have v10:=nB_of st_n10
 have hd:¬([49,48,44,50,48]:List UInt8)=dash:=by decide
 have t1:lsDB [49,48,44,50,48] 4094=true:=by unfold lsDB;rw [if_neg hd];exact (ls_yes st_list).2
 have t2:lsD [49,48,44,50,48] 4094=[10,20]:=by unfold lsD;rw [if_neg hd];exact (ls_yes st_list).1
 rw [vEd (wdE_N st_sw1),vEd (wdE_N st_p1),vEd (wdE_num (b:=nB [52] 1 65535) rfl c4.1),vEd (wdE_K (s:=[116,114,117,110,107]) (.inr rfl)),vEd (wdE_num (c:=87) (b:=nB [49,48] 1 4094 || decide ([49,48]=dash)) rfl (by rw [v10.1];rfl)),vEd (wdE_num (c:=84) (b:=lsDB [49,48,44,50,48] 4094) rfl t1)]
 show ((0:Int),({LV.new 7 2 with dev:=[115,119,49],port:=[112,49],cost:=nV [52] 1 65535,vlan:=nV [49,48] 1 4094,tagged:=lsD [49,48,44,50,48] 4094}:LV))=_
 rw [c4.2,v10.2,t2]
 rfl
theorem ex2:rdE exW2 7=21:=by
 obtain ⟨h1,h2⟩:=rd_of (ws:=exW2) (row:=7) (fm_port7 rfl rfl (by decide)) (by simp) rfl (show kdV (wat exW2 0)=2 by decide +kernel) ex2_run;rw [h1]
 decide +kernel
end Go.Proofs.YtgmflecelnefcaaGreat
