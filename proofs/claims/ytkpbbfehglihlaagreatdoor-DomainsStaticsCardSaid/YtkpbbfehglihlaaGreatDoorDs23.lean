import Derived.Test.YtkpbbfehglihlaaGreatDoorDs22
import Derived.Test.YtkpbbfehglihlaaGreatDoorDs07
import Derived.Test.YtkpbbfehglihlaaGreatDoorDs04
import Derived.Test.YtkpbbfehglihlaaGreatDoorDs06
import Derived.RegionTactic
set_option maxRecDepth 100000
set_option maxHeartbeats 40000000
namespace Go.Proofs.YtkpbbfehglihlaaGreatDoor
open Go.Lib (hid)
open Go.RowKit
def GotW (w:World) (q:Nat) (L:LV) (v:Value) (e:Ending) (w':World):Prop:=
 e=.returned v∧(∃s1 s2 s3 s4,LBox w' q L s1 s2 s3 s4)∧Ex q w w'
theorem refNm_any (s:List UInt8) (k:Int) (hk:0≤k) (q:Nat) (L:LV) (s1 s2 s3 s4:SlV) (w:World) (h:LBox w q L s1 s2 s3 s4):
 Calls Tryz.prog 199 #[.string (str s),.int .i64 k,.pointer (some ⟨q,0,none⟩)] w (GotW w q (nmL s k.toNat L) (.tuple #[])):=by
 have H:=hid h;obtain ⟨c0,c1,c2,c3,c4,c5,c6,_⟩:=h.cells;have hf:=h.frozen;clear h
 by_cases k0:k=0
 · have E:=hid (show nmL s k.toNat L={L with dev:=s} by subst k0;rfl)
   generalize nmL s k.toNat L=M at *;subst k0
   go_enter Tryz.func199,Tryz.ntmps199
   go_wp2;exact bodyPost_ret (v:=.tuple #[]) (by simp [results,Tryz.results199,go_sem]) rfl ⟨rfl,⟨_,_,_,_,by rw [E.out];exact H.out.set_dev s⟩,(Ex.refl _ _).set 2 _⟩
 · have hk0:k.toNat≠0:=by omega
   by_cases hK:L.kind=8∨L.kind=9
   · have E:=hid (show nmL s k.toNat L={L with name:=s} by unfold nmL;rw [if_neg hk0,if_pos hK])
     generalize nmL s k.toNat L=M at *;generalize hKK:L.kind=K at c1 hK;have hKK2:=hid hKK;clear hKK hk0
     rcases hK with rfl|rfl
     · go_enter Tryz.func199,Tryz.ntmps199
       go_wp2;exact bodyPost_ret (v:=.tuple #[]) (by simp [results,Tryz.results199,go_sem]) rfl ⟨rfl,⟨_,_,_,_,by rw [E.out];exact H.out.set_name s⟩,(Ex.refl _ _).set 6 _⟩
     · go_enter Tryz.func199,Tryz.ntmps199
       go_wp2;exact bodyPost_ret (v:=.tuple #[]) (by simp [results,Tryz.results199,go_sem]) rfl ⟨rfl,⟨_,_,_,_,by rw [E.out];exact H.out.set_name s⟩,(Ex.refl _ _).set 6 _⟩
   · have n8:¬L.kind=8:=fun g=>hK (.inl g)
     have n9:¬L.kind=9:=fun g=>hK (.inr g)
     by_cases k1:k=1
     · have E:=hid (show nmL s k.toNat L={L with port:=s} by subst k1;unfold nmL;rw [if_neg hk0,if_neg hK];rfl)
       generalize nmL s k.toNat L=M at *;generalize hKK:L.kind=K at c1 n8 n9
       have d8:(K == 8)=false:=by simpa using n8
       have d9:(K == 9)=false:=by simpa using n9
       have hKK2:=hid hKK;clear hKK hk0 hK k0;subst k1
       go_enter Tryz.func199,Tryz.ntmps199
       go_wp2;exact bodyPost_end (v:=.tuple #[]) (by simp [results,Tryz.results199,go_sem]) rfl ⟨rfl,⟨_,_,_,_,by rw [E.out];exact H.out.set_port s⟩,(Ex.refl _ _).set 3 _⟩
     · by_cases k2:k=2
       · have E:=hid (show nmL s k.toNat L={L with peer:=s} by subst k2;unfold nmL;rw [if_neg hk0,if_neg hK];rfl)
         generalize nmL s k.toNat L=M at *;generalize hKK:L.kind=K at c1 n8 n9
         have d8:(K == 8)=false:=by simpa using n8
         have d9:(K == 9)=false:=by simpa using n9
         have hKK2:=hid hKK;clear hKK hk0 hK k0 k1;subst k2
         go_enter Tryz.func199,Tryz.ntmps199
         go_wp2;exact bodyPost_end (v:=.tuple #[]) (by simp [results,Tryz.results199,go_sem]) rfl ⟨rfl,⟨_,_,_,_,by rw [E.out];exact H.out.set_peer s⟩,(Ex.refl _ _).set 4 _⟩
       · by_cases k3:k=3
         · have E:=hid (show nmL s k.toNat L={L with far:=s} by subst k3;unfold nmL;rw [if_neg hk0,if_neg hK];rfl)
           generalize nmL s k.toNat L=M at *;generalize hKK:L.kind=K at c1 n8 n9
           have d8:(K == 8)=false:=by simpa using n8
           have d9:(K == 9)=false:=by simpa using n9
           have hKK2:=hid hKK;clear hKK hk0 hK k0 k1 k2;subst k3
           go_enter Tryz.func199,Tryz.ntmps199
           go_wp2;exact bodyPost_end (v:=.tuple #[]) (by simp [results,Tryz.results199,go_sem]) rfl ⟨rfl,⟨_,_,_,_,by rw [E.out];exact H.out.set_far s⟩,(Ex.refl _ _).set 5 _⟩
         · have E:=hid (show nmL s k.toNat L=L by unfold nmL;rw [if_neg hk0,if_neg hK,if_neg (by omega),if_neg (by omega),if_neg (by omega)])
           generalize nmL s k.toNat L=M at *;generalize hKK:L.kind=K at c1 n8 n9
           have d8:(K == 8)=false:=by simpa using n8
           have d9:(K == 9)=false:=by simpa using n9
           have hKK2:=hid hKK;clear hKK hk0 hK
           have d0:(k == 0)=false:=by simpa using k0
           have d1:(k == 1)=false:=by simpa using k1
           have d2:(k == 2)=false:=by simpa using k2
           have d3:(k == 3)=false:=by simpa using k3
           go_enter Tryz.func199,Tryz.ntmps199
           go_wp2;exact bodyPost_end (v:=.tuple #[]) (by simp [results,Tryz.results199,go_sem]) rfl ⟨rfl,⟨_,_,_,_,by rw [E.out];exact H.out⟩,Ex.refl _ _⟩
theorem station_any (m:Int) (w:World) (h0:0≤m) (h1:m<281474976710656):
 Calls Tryz.prog 202 #[.int .u64 m] w fun e w'=>e=.returned (.bool (stB m))∧Below w.heap.size w w':=by
 have I:=hid (fun w=>Mac.refIsHost_any m w h0 (by omega));have G:=hid (fun w=>Mac.refGroup_any m w h0 (by omega));have E:=hid (show stB m=(!Mac.isHostB m && !Mac.grp m) from rfl);generalize stB m=V at *;generalize (if Mac.isHostB m=true then m % 4294967296 else 0)=ip at *;generalize Mac.isHostB m=a at *;generalize Mac.grp m=b at *
 cases a
 · go_enter Tryz.func202,Tryz.ntmps202
   go_wp2_with (first
    |(go_at_call 219;(with_reducible refine (I.out _).mono ?_);rintro e w1 ⟨rfl,hb1⟩;have B1:=hid hb1;clear hb1)
    |(go_at_call 220;(with_reducible refine (G.out _).mono ?_);rintro e w2 ⟨rfl,hb2⟩;have B2:=hid (vAa B1.out hb2);clear hb2))
   go_ret;exact ⟨by rw [E.out];rfl,B2.out⟩
 · go_enter Tryz.func202,Tryz.ntmps202
   go_wp2_with (go_at_call 219;(with_reducible refine (I.out _).mono ?_);rintro e w1 ⟨rfl,hb1⟩;have B1:=hid hb1;clear hb1);go_ret;exact ⟨by rw [E.out];rfl,B1.out⟩
theorem rlist_any (s:List UInt8) (hi:Int) (w:World) (hs:s.length≤1000000):
 Calls Tryz.prog 203 #[.string (str s),.int .i64 hi] w (GotLF .i64 (lsD s hi) (lsDB s hi) w):=by
 by_cases h:s=dash
 · have e1:lsD s hi=[]:=by unfold lsD;rw [if_pos h]
   have e2:lsDB s hi=true:=by unfold lsDB;rw [if_pos h]
   rw [e1,e2,h]
   have d:(dash == ([45]:List UInt8))=true:=by decide
   go_enter Tryz.func203,Tryz.ntmps203
   go_wp2;go_ret2;exact ⟨none,0,0,rfl,ISl.nil,Below.refl _ _,fun _ h=>by cases h⟩
 · have e1:lsD s hi=lsV (rdI 1 hi) s:=by unfold lsD;rw [if_neg h]
   have e2:lsDB s hi=lsB (rdI 1 hi) s:=by unfold lsDB;rw [if_neg h]
   rw [e1,e2]
   have d:(s == ([45]:List UInt8))=false:=by simpa [dash] using h
   have R:=hid (fun w=>vIl s 1 hi w hs);generalize lsV (rdI 1 hi) s=xs at *;generalize lsB (rdI 1 hi) s=b at *;clear h e1 e2
   go_enter Tryz.func203,Tryz.ntmps203
   go_wp2_with (go_at_call 221;(with_reducible refine (R.out _).mono ?_);rintro e w1 ⟨A,n,c,rfl,g1,g2,g3⟩);go_ret2;exact ⟨A,n,c,rfl,g1,g2,g3⟩
def One (w:World) (A B:Int) (w':World):Prop:=
 w'.cell? ⟨w.heap.size,0,none⟩=some (.int .u32 A)∧w'.cell? ⟨w.heap.size,1,none⟩=some (.int .i64 B)∧Below w.heap.size w w'∧w.heap.size<w'.heap.size
theorem One.keep {w W w':World} {A B:Int} (h:One w A B W) (hb:Below W.heap.size W w'):One w A B w':=by
 obtain ⟨h0,h1,hB,hl⟩:=h;exact ⟨(hb.cell (p:=⟨w.heap.size,0,none⟩) hl).trans h0,(hb.cell (p:=⟨w.heap.size,1,none⟩) hl).trans h1,hB.trans (hb.mono hB.size),Nat.lt_of_lt_of_le hl hb.size⟩
theorem One.drew {w W:World} {A B:Int} (h:One w A B W):One w A B W.drew:=by
 obtain ⟨h0,h1,hB,hl⟩:=h;exact ⟨h0,h1,⟨hB.os,hB.tape,hB.output,hB.size,hB.block⟩,hl⟩
theorem One.start (w:World) (A B:Int) (T:TypeId):One w A B (w.alloc (.cells #[.int .u32 A,.int .i64 B] T)):=
 ⟨by simp,by simp,(Below.refl _ _).alloc (Nat.le_refl _) _,by simp⟩
theorem subnet_as (A B F G:Int) (v1 v2 v3 v4:Bool) (w:World) (CF:Hid (∀w,Calls Tryz.prog 224 #[.agg #[.int .u32 A,.int .i64 B]] w fun e w'=>e=.returned (.int .u32 F)∧Below w.heap.size w w'))
 (CG:Hid (∀w,Calls Tryz.prog 225 #[.agg #[.int .u32 A,.int .i64 B]] w fun e w'=>e=.returned (.int .u32 G)∧Below w.heap.size w w'))
 (d1:decide (1≤B)=v1) (d2:decide (B≤30)=v2) (d3:(A != F)=v3) (d4:(A != G)=v4):
 Calls Tryz.prog 207 #[.agg #[.int .u32 A,.int .i64 B]] w fun e w'=>e=.returned (.bool (v1 && v2 && v3 && v4))∧Below w.heap.size w w':=by
 cases v1<;>cases v2<;>cases v3<;>cases v4
 all_goals
  go_enter Tryz.func207,Tryz.ntmps207
  go_wp2;refine vAe (One w A B) (by kernel_rfl) (by kernel_rfl) (One.start w A B _).drew ?_
  repeat
   first
    |(refine Seq.pass rfl ?_;simp only [Act.put,List.setIfInBounds_toArray,List.set_cons_zero,List.set_cons_succ])
    |(refine Seq.run ?_ rfl (fun wx hx=>?_) ?_
      rotate_left
      · have hx2:=hx
        obtain ⟨h0,h1,hB,hl⟩:=hx2
        go_simp
        first
         |(refine StepRun.val ?_;exact hx)
         |(refine StepRun.call (v:=.int .u32 F) ?_;(with_reducible refine Calls.mono (CF.out _) ?_);rintro e w' ⟨rfl,hb⟩;exact ⟨rfl,hx.keep hb⟩)
         |(refine StepRun.call (v:=.int .u32 G) ?_;(with_reducible refine Calls.mono (CG.out _) ?_);rintro e w' ⟨rfl,hb⟩;exact ⟨rfl,hx.keep hb⟩)
      simp only [Act.put,List.setIfInBounds_toArray,List.set_cons_zero,List.set_cons_succ])
  refine Seq.last (fun wx hx=>?_);go_wp2;go_ret;exact ⟨rfl,hx.2.2.1⟩
theorem subnet_any (A B:Int) (h0:0≤A) (h1:A<4294967296) (w:World):
 Calls Tryz.prog 207 #[.agg #[.int .u32 A,.int .i64 B]] w fun e w'=>e=.returned (.bool (snB A B))∧Below w.heap.size w w':=by
 have e:snB A B=(decide (1≤B) && decide (B≤30) && (A != FS A B) && (A != LS A B)):=by
  unfold snB;congr 1
 rw [e];exact subnet_as A B (FS A B) (LS A B) _ _ _ _ w (hid fun w=>refFirst_all A B h0 h1 w) (hid fun w=>refLast_all A B h0 h1 w) rfl rfl rfl rfl
def vGu (w:World) (q:Nat) (E:Int) (M:LV) (e:Ending) (w':World):Prop:=
 e=.returned (.int .i64 E)∧(∃L s1 s2 s3 s4,LBox w' q L s1 s2 s3 s4∧(E=0→L=M))∧Ex q w w'
theorem mc_bd (s:List UInt8):0≤mcV s∧mcV s<281474976710656:=by
 unfold mcV Mac.rdV
 by_cases h:Mac.rdB (str s)=true
 · rw [if_pos h]
   have:=Mac.val_bd (str s) 6 ((Mac.rdB_iff (str s)).1 h).2
   omega
 · rw [if_neg h]
   omega
theorem pa_bd (s:List UInt8):0≤paV s∧paV s<4294967296:=by
 unfold paV
 cases h:pfF s with
 |none=>simp
 |some p=>
  obtain ⟨a,b⟩:=p
  have:=(pfF_iff.1 h).1
  simp;omega
theorem rdV_bd (s:List UInt8):0≤rdV s∧rdV s<4294967296:=by
 unfold rdV
 cases h:rdF s with
 |none=>simp
 |some a=>
  have:=(rdF_iff.1 h).1
  simp;omega
theorem lsA_some {s:List UInt8} (h:lsB rdA s=true):1≤(lsV rdA s).length:=by
 unfold lsB at h;unfold lsV
 cases hx:rlF rdA s with
 |none=>rw [hx] at h;cases h
 |some xs=>
  unfold rlF at hx
  cases hy:vBq rdA (vAg s) with
  |none=>rw [hy] at hx;cases hx
  |some ys=>
   rw [hy] at hx;simp only at hx
   by_cases hr:risB ys=true
   · rw [if_pos hr] at hx
     cases hx
     exact ((vCz xs).1 hr).1
   · rw [if_neg hr] at hx;cases hx
theorem rword_P (s:List UInt8) (k:Int) (_hk:0≤k) (q:Nat) (L:LV) (s1 s2 s3 s4:SlV) (w:World) (h:LBox w q L s1 s2 s3 s4) (hs:s.length≤1000000):
 Calls Tryz.prog 182 #[.int .u8 80,.string (str s),.int .i64 k,.pointer (some ⟨q,0,none⟩)] w (vGu w q (wdE 80 s) (wdL 80 s k.toNat L)):=by
 have H:=hid h;have C:=hid (fun w=>vBo s 0 65535 w (by unfold maxLen;omega));have EE:=hid (show wdE 80 s=if nB s 0 65535=true then 0 else 21 by simp [wdE,wdB]);have EL:=hid (show wdL 80 s k.toNat L={L with num:=nV s 0 65535} by simp [wdL]);generalize wdE 80 s=E at *;generalize wdL 80 s k.toNat L=M at *;generalize nV s 0 65535=V at *;generalize nB s 0 65535=b at *;clear h
 cases b
 · go_enter Tryz.func182,Tryz.ntmps182
   go_wp2_with (go_at_call 200;(with_reducible refine (C.out _).mono ?_);rintro e w1 ⟨rfl,hb1⟩;have B1:=hid hb1;have H1:=hid (H.out.below hb1);clear hb1;obtain ⟨z0,z1,z2,z3,z4,z5,z6,z7,z8,z9,z10,z11,z12,z13,z14,z15,z16⟩:=H1.out.cells;have zf:=H1.out.frozen;have zl:=H1.out.lt);exact bodyPost_ret (v:=.int .i64 21) (by simp [results,Tryz.results182,go_sem]) rfl ⟨by rw [EE.out];rfl,⟨_,_,_,_,_,H1.out.set_num V,fun _=>EL.out.symm⟩,(Ex.of_below B1.out).set 11 _⟩
 · go_enter Tryz.func182,Tryz.ntmps182
   go_wp2_with (go_at_call 200;(with_reducible refine (C.out _).mono ?_);rintro e w1 ⟨rfl,hb1⟩;have B1:=hid hb1;have H1:=hid (H.out.below hb1);clear hb1;obtain ⟨z0,z1,z2,z3,z4,z5,z6,z7,z8,z9,z10,z11,z12,z13,z14,z15,z16⟩:=H1.out.cells;have zf:=H1.out.frozen;have zl:=H1.out.lt);exact bodyPost_ret (v:=.int .i64 0) (by simp [results,Tryz.results182,go_sem]) rfl ⟨by rw [EE.out];rfl,⟨_,_,_,_,_,H1.out.set_num V,fun _=>EL.out.symm⟩,(Ex.of_below B1.out).set 11 _⟩
theorem rword_C (s:List UInt8) (k:Int) (_hk:0≤k) (q:Nat) (L:LV) (s1 s2 s3 s4:SlV) (w:World) (h:LBox w q L s1 s2 s3 s4) (hs:s.length≤1000000):
 Calls Tryz.prog 182 #[.int .u8 67,.string (str s),.int .i64 k,.pointer (some ⟨q,0,none⟩)] w (vGu w q (wdE 67 s) (wdL 67 s k.toNat L)):=by
 have H:=hid h;have C:=hid (fun w=>vBo s 1 65535 w (by unfold maxLen;omega));have EE:=hid (show wdE 67 s=if nB s 1 65535=true then 0 else 21 by simp [wdE,wdB]);have EL:=hid (show wdL 67 s k.toNat L={L with cost:=nV s 1 65535} by simp [wdL]);generalize wdE 67 s=E at *;generalize wdL 67 s k.toNat L=M at *;generalize nV s 1 65535=V at *;generalize nB s 1 65535=b at *;clear h
 cases b
 · go_enter Tryz.func182,Tryz.ntmps182
   go_wp2_with (go_at_call 200;(with_reducible refine (C.out _).mono ?_);rintro e w1 ⟨rfl,hb1⟩;have B1:=hid hb1;have H1:=hid (H.out.below hb1);clear hb1;obtain ⟨z0,z1,z2,z3,z4,z5,z6,z7,z8,z9,z10,z11,z12,z13,z14,z15,z16⟩:=H1.out.cells;have zf:=H1.out.frozen;have zl:=H1.out.lt);exact bodyPost_ret (v:=.int .i64 21) (by simp [results,Tryz.results182,go_sem]) rfl ⟨by rw [EE.out];rfl,⟨_,_,_,_,_,H1.out.set_cost V,fun _=>EL.out.symm⟩,(Ex.of_below B1.out).set 12 _⟩
 · go_enter Tryz.func182,Tryz.ntmps182
   go_wp2_with (go_at_call 200;(with_reducible refine (C.out _).mono ?_);rintro e w1 ⟨rfl,hb1⟩;have B1:=hid hb1;have H1:=hid (H.out.below hb1);clear hb1;obtain ⟨z0,z1,z2,z3,z4,z5,z6,z7,z8,z9,z10,z11,z12,z13,z14,z15,z16⟩:=H1.out.cells;have zf:=H1.out.frozen;have zl:=H1.out.lt);exact bodyPost_ret (v:=.int .i64 0) (by simp [results,Tryz.results182,go_sem]) rfl ⟨by rw [EE.out];rfl,⟨_,_,_,_,_,H1.out.set_cost V,fun _=>EL.out.symm⟩,(Ex.of_below B1.out).set 12 _⟩
theorem rword_V (s:List UInt8) (k:Int) (_hk:0≤k) (q:Nat) (L:LV) (s1 s2 s3 s4:SlV) (w:World) (h:LBox w q L s1 s2 s3 s4) (hs:s.length≤1000000):
 Calls Tryz.prog 182 #[.int .u8 86,.string (str s),.int .i64 k,.pointer (some ⟨q,0,none⟩)] w (vGu w q (wdE 86 s) (wdL 86 s k.toNat L)):=by
 have H:=hid h;have C:=hid (fun w=>vBo s 1 4094 w (by unfold maxLen;omega));have EE:=hid (show wdE 86 s=if nB s 1 4094=true then 0 else 21 by simp [wdE,wdB]);have EL:=hid (show wdL 86 s k.toNat L={L with vlan:=nV s 1 4094} by simp [wdL]);generalize wdE 86 s=E at *;generalize wdL 86 s k.toNat L=M at *;generalize nV s 1 4094=V at *;generalize nB s 1 4094=b at *;clear h
 cases b
 · go_enter Tryz.func182,Tryz.ntmps182
   go_wp2_with (go_at_call 200;(with_reducible refine (C.out _).mono ?_);rintro e w1 ⟨rfl,hb1⟩;have B1:=hid hb1;have H1:=hid (H.out.below hb1);clear hb1;obtain ⟨z0,z1,z2,z3,z4,z5,z6,z7,z8,z9,z10,z11,z12,z13,z14,z15,z16⟩:=H1.out.cells;have zf:=H1.out.frozen;have zl:=H1.out.lt);exact bodyPost_ret (v:=.int .i64 21) (by simp [results,Tryz.results182,go_sem]) rfl ⟨by rw [EE.out];rfl,⟨_,_,_,_,_,H1.out.set_vlan V,fun _=>EL.out.symm⟩,(Ex.of_below B1.out).set 10 _⟩
 · go_enter Tryz.func182,Tryz.ntmps182
   go_wp2_with (go_at_call 200;(with_reducible refine (C.out _).mono ?_);rintro e w1 ⟨rfl,hb1⟩;have B1:=hid hb1;have H1:=hid (H.out.below hb1);clear hb1;obtain ⟨z0,z1,z2,z3,z4,z5,z6,z7,z8,z9,z10,z11,z12,z13,z14,z15,z16⟩:=H1.out.cells;have zf:=H1.out.frozen;have zl:=H1.out.lt);exact bodyPost_ret (v:=.int .i64 0) (by simp [results,Tryz.results182,go_sem]) rfl ⟨by rw [EE.out];rfl,⟨_,_,_,_,_,H1.out.set_vlan V,fun _=>EL.out.symm⟩,(Ex.of_below B1.out).set 10 _⟩
theorem rword_I (s:List UInt8) (k:Int) (_hk:0≤k) (q:Nat) (L:LV) (s1 s2 s3 s4:SlV) (w:World) (h:LBox w q L s1 s2 s3 s4) (hs:s.length≤1000000):
 Calls Tryz.prog 182 #[.int .u8 73,.string (str s),.int .i64 k,.pointer (some ⟨q,0,none⟩)] w (vGu w q (wdE 73 s) (wdL 73 s k.toNat L)):=by
 have H:=hid h;have C:=hid (fun w=>vBo s 1 16777215 w (by unfold maxLen;omega));have EE:=hid (show wdE 73 s=if nB s 1 16777215=true then 0 else 21 by simp [wdE,wdB]);have EL:=hid (show wdL 73 s k.toNat L={L with num:=nV s 1 16777215} by simp [wdL]);generalize wdE 73 s=E at *;generalize wdL 73 s k.toNat L=M at *;generalize nV s 1 16777215=V at *;generalize nB s 1 16777215=b at *
 clear h
 cases b
 · go_enter Tryz.func182,Tryz.ntmps182
   go_wp2_with (go_at_call 200;(with_reducible refine (C.out _).mono ?_);rintro e w1 ⟨rfl,hb1⟩;have B1:=hid hb1;have H1:=hid (H.out.below hb1);clear hb1;obtain ⟨z0,z1,z2,z3,z4,z5,z6,z7,z8,z9,z10,z11,z12,z13,z14,z15,z16⟩:=H1.out.cells;have zf:=H1.out.frozen;have zl:=H1.out.lt);exact bodyPost_ret (v:=.int .i64 21) (by simp [results,Tryz.results182,go_sem]) rfl ⟨by rw [EE.out];rfl,⟨_,_,_,_,_,H1.out.set_num V,fun _=>EL.out.symm⟩,(Ex.of_below B1.out).set 11 _⟩
 · go_enter Tryz.func182,Tryz.ntmps182
   go_wp2_with (go_at_call 200;(with_reducible refine (C.out _).mono ?_);rintro e w1 ⟨rfl,hb1⟩;have B1:=hid hb1;have H1:=hid (H.out.below hb1);clear hb1;obtain ⟨z0,z1,z2,z3,z4,z5,z6,z7,z8,z9,z10,z11,z12,z13,z14,z15,z16⟩:=H1.out.cells;have zf:=H1.out.frozen;have zl:=H1.out.lt);exact bodyPost_ret (v:=.int .i64 0) (by simp [results,Tryz.results182,go_sem]) rfl ⟨by rw [EE.out];rfl,⟨_,_,_,_,_,H1.out.set_num V,fun _=>EL.out.symm⟩,(Ex.of_below B1.out).set 11 _⟩
theorem rword_W (s:List UInt8) (k:Int) (_hk:0≤k) (q:Nat) (L:LV) (s1 s2 s3 s4:SlV) (w:World) (h:LBox w q L s1 s2 s3 s4) (hs:s.length≤1000000):
 Calls Tryz.prog 182 #[.int .u8 87,.string (str s),.int .i64 k,.pointer (some ⟨q,0,none⟩)] w (vGu w q (wdE 87 s) (wdL 87 s k.toNat L)):=by
 have H:=hid h;have C:=hid (fun w=>vBo s 1 4094 w (by unfold maxLen;omega));have EE:=hid (show wdE 87 s=if (nB s 1 4094 || decide (s=dash))=true then 0 else 21 by simp [wdE,wdB]);have EL:=hid (show wdL 87 s k.toNat L={L with vlan:=nV s 1 4094} by simp [wdL]);generalize wdE 87 s=E at *;generalize wdL 87 s k.toNat L=M at *
 have ed:decide (s=dash)=(s == ([45]:List UInt8)):=by
  by_cases g:s=dash
  · rw [decide_eq_true g];subst g;rfl
  · rw [decide_eq_false g];exact (by simpa [dash] using g:(s == ([45]:List UInt8))=false).symm
 rw [ed] at EE;clear ed;generalize nV s 1 4094=V at *;generalize nB s 1 4094=b at *;generalize hd:(s == ([45]:List UInt8))=d at *;clear h
 cases b
 · cases d
   · go_enter Tryz.func182,Tryz.ntmps182
     go_wp2_with (go_at_call 200;(with_reducible refine (C.out _).mono ?_);rintro e w1 ⟨rfl,hb1⟩;have B1:=hid hb1;have H1:=hid (H.out.below hb1);clear hb1;obtain ⟨z0,z1,z2,z3,z4,z5,z6,z7,z8,z9,z10,z11,z12,z13,z14,z15,z16⟩:=H1.out.cells;have zf:=H1.out.frozen;have zl:=H1.out.lt);exact bodyPost_ret (v:=.int .i64 21) (by simp [results,Tryz.results182,go_sem]) rfl ⟨by rw [EE.out];rfl,⟨_,_,_,_,_,H1.out.set_vlan V,fun _=>EL.out.symm⟩,(Ex.of_below B1.out).set 10 _⟩
   · go_enter Tryz.func182,Tryz.ntmps182
     go_wp2_with (go_at_call 200;(with_reducible refine (C.out _).mono ?_);rintro e w1 ⟨rfl,hb1⟩;have B1:=hid hb1;have H1:=hid (H.out.below hb1);clear hb1;obtain ⟨z0,z1,z2,z3,z4,z5,z6,z7,z8,z9,z10,z11,z12,z13,z14,z15,z16⟩:=H1.out.cells;have zf:=H1.out.frozen;have zl:=H1.out.lt);exact bodyPost_ret (v:=.int .i64 0) (by simp [results,Tryz.results182,go_sem]) rfl ⟨by rw [EE.out];rfl,⟨_,_,_,_,_,H1.out.set_vlan V,fun _=>EL.out.symm⟩,(Ex.of_below B1.out).set 10 _⟩
 · go_enter Tryz.func182,Tryz.ntmps182
   go_wp2_with (go_at_call 200;(with_reducible refine (C.out _).mono ?_);rintro e w1 ⟨rfl,hb1⟩;have B1:=hid hb1;have H1:=hid (H.out.below hb1);clear hb1;obtain ⟨z0,z1,z2,z3,z4,z5,z6,z7,z8,z9,z10,z11,z12,z13,z14,z15,z16⟩:=H1.out.cells;have zf:=H1.out.frozen;have zl:=H1.out.lt);exact bodyPost_ret (v:=.int .i64 0) (by simp [results,Tryz.results182,go_sem]) rfl ⟨by rw [EE.out];rfl,⟨_,_,_,_,_,H1.out.set_vlan V,fun _=>EL.out.symm⟩,(Ex.of_below B1.out).set 10 _⟩
theorem rword_N (s:List UInt8) (k:Int) (hk:0≤k) (q:Nat) (L:LV) (s1 s2 s3 s4:SlV) (w:World) (h:LBox w q L s1 s2 s3 s4) (hs:s.length≤1000000):
 Calls Tryz.prog 182 #[.int .u8 78,.string (str s),.int .i64 k,.pointer (some ⟨q,0,none⟩)] w (vGu w q (wdE 78 s) (wdL 78 s k.toNat L)):=by
 have H:=hid h;have C:=hid (fun w=>refName_any (str s) w (by rw [vBa];unfold maxLen;omega) (nmB s) (vGi s));have CN:=hid (refNm_any s k hk q L s1 s2 s3 s4 w h);have EE:=hid (show wdE 78 s=if nmB s=true then 0 else 20 by simp [wdE]);have EL:=hid (show wdL 78 s k.toNat L=nmL s k.toNat L by simp [wdL]);generalize wdE 78 s=E at *;generalize wdL 78 s k.toNat L=M at *;generalize nmL s k.toNat L=N at *
 generalize nmB s=b at *;clear h
 cases b
 · go_enter Tryz.func182,Tryz.ntmps182
   go_wp2_with (go_at_call 198;(with_reducible refine (C.out _).mono ?_);rintro e w1 ⟨rfl,rfl⟩);exact bodyPost_ret (v:=.int .i64 20) (by simp [results,Tryz.results182,go_sem]) rfl ⟨by rw [EE.out];rfl,⟨_,_,_,_,_,H.out,fun g=>by rw [EE.out] at g;cases g⟩,Ex.refl _ _⟩
 · go_enter Tryz.func182,Tryz.ntmps182
   go_wp2_with (first
    |(go_at_call 198;(with_reducible refine (C.out _).mono ?_);rintro e w1 ⟨rfl,rfl⟩)
    |(go_at_call 199;(with_reducible refine CN.out.mono ?_);rintro e w2 ⟨rfl,hl,hx⟩;have HX:=hid hx;have HL:=hid hl;clear hl hx))
   obtain ⟨t1,t2,t3,t4,ht⟩:=HL.out;exact bodyPost_ret (v:=.int .i64 0) (by simp [results,Tryz.results182,go_sem]) rfl ⟨by rw [EE.out];rfl,⟨_,_,_,_,_,ht,fun _=>EL.out.symm⟩,HX.out⟩
theorem rword_K (s:List UInt8) (k:Int) (_hk:0≤k) (q:Nat) (L:LV) (s1 s2 s3 s4:SlV) (w:World) (h:LBox w q L s1 s2 s3 s4) (_hs:s.length≤1000000):
 Calls Tryz.prog 182 #[.int .u8 75,.string (str s),.int .i64 k,.pointer (some ⟨q,0,none⟩)] w (vGu w q (wdE 75 s) (wdL 75 s k.toNat L)):=by
 have H:=hid h;have EE:=hid (show wdE 75 s=if s=vAt∨s=vBd then 0 else 20 by simp [wdE]);have EL:=hid (show wdL 75 s k.toNat L=L by simp [wdL]);generalize wdE 75 s=E at *;generalize wdL 75 s k.toNat L=M at *
 have e1:(s == ([97,99,99,101,115,115]:List UInt8))=decide (s=vAt):=by
  by_cases g:s=vAt
  · rw [decide_eq_true g];subst g;rfl
  · rw [decide_eq_false g];simpa [vAt] using g
 have e2:(s == ([116,114,117,110,107]:List UInt8))=decide (s=vBd):=by
  by_cases g:s=vBd
  · rw [decide_eq_true g];subst g;rfl
  · rw [decide_eq_false g];simpa [vBd] using g
 have e3:(s != ([97,99,99,101,115,115]:List UInt8))=!decide (s=vAt):=by rw [←e1];rfl
 have e4:(s != ([116,114,117,110,107]:List UInt8))=!decide (s=vBd):=by rw [←e2];rfl
 clear h
 by_cases g1:s=vAt
 · rw [decide_eq_true g1] at e1 e3
   have E2:=hid (EE.out.trans (if_pos (Or.inl g1)));simp only [Bool.not_true] at e3;clear g1 EE e2 e4
   go_enter Tryz.func182,Tryz.ntmps182
   go_wp2;exact bodyPost_ret (v:=.int .i64 0) (by simp [results,Tryz.results182,go_sem]) rfl ⟨by rw [E2.out],⟨_,_,_,_,_,H.out,fun _=>EL.out.symm⟩,Ex.refl _ _⟩
 · rw [decide_eq_false g1] at e1 e3
   simp only [Bool.not_false] at e3
   by_cases g2:s=vBd
   · rw [decide_eq_true g2] at e2 e4
     simp only [Bool.not_true] at e4;have E2:=hid (EE.out.trans (if_pos (Or.inr g2)));clear g1 g2 EE
     go_enter Tryz.func182,Tryz.ntmps182
     go_wp2;exact bodyPost_ret (v:=.int .i64 0) (by simp [results,Tryz.results182,go_sem]) rfl ⟨by rw [E2.out],⟨_,_,_,_,_,H.out,fun _=>EL.out.symm⟩,Ex.refl _ _⟩
   · rw [decide_eq_false g2] at e2 e4
     simp only [Bool.not_false] at e4;have E2:=hid (EE.out.trans (if_neg (fun g=>g.elim g1 g2)));clear g1 g2 EE
     go_enter Tryz.func182,Tryz.ntmps182
     go_wp2;exact bodyPost_ret (v:=.int .i64 20) (by simp [results,Tryz.results182,go_sem]) rfl ⟨by rw [E2.out],⟨_,_,_,_,_,H.out,fun _=>EL.out.symm⟩,Ex.refl _ _⟩
theorem FSl.got {w w':World} {q:Nat} {k:IntKind} {A:Option Addr} {n c:Nat} {xs:List Int} (h:ISl w' k A n c xs) (hf:∀ad,A=some ad→w.heap.size≤ad.block) (hq:q<w.heap.size):FSl w' q k ⟨A,n,c⟩ xs:=
 ⟨h,fun ad g=>by have:=hf ad g;omega⟩
theorem sub_keep {w1 w2:World} {q:Nat} {V U:Int} {T:TypeId} (hq:q<w1.heap.size) (h:Below (w1.alloc (.cells #[.int .u32 V,.int .i64 U] T)).heap.size (w1.alloc (.cells #[.int .u32 V,.int .i64 U] T)) w2):
 w2.cell? ⟨w1.heap.size,0,none⟩=some (.int .u32 V)∧w2.cell? ⟨w1.heap.size,1,none⟩=some (.int .i64 U)∧(∀u:Value,(w2.setCell ⟨q,8,none⟩ u).cell? ⟨w1.heap.size,1,none⟩=some (.int .i64 U))∧w1.heap.size<w2.heap.size∧Below w1.heap.size w1 w2:=by
 have hz:w1.heap.size<(w1.alloc (.cells #[.int .u32 V,.int .i64 U] T)).heap.size:=by simp
 have k1:w2.cell? ⟨w1.heap.size,1,none⟩=some (.int .i64 U):=(h.cell (p:=⟨w1.heap.size,1,none⟩) hz).trans (by simp)
 have hne:w1.heap.size≠q:=by omega
 exact ⟨(h.cell (p:=⟨w1.heap.size,0,none⟩) hz).trans (by simp),k1,fun u=>(World.cell?_setCell_other _ _ _ _ (by intro e;injection e with e1 _;exact hne e1.symm)).trans k1,Nat.lt_of_lt_of_le hz h.size,vBw h⟩
theorem rword_T (s:List UInt8) (k:Int) (_hk:0≤k) (q:Nat) (L:LV) (s1 s2 s3 s4:SlV) (w:World) (h:LBox w q L s1 s2 s3 s4) (hs:s.length≤1000000):
 Calls Tryz.prog 182 #[.int .u8 84,.string (str s),.int .i64 k,.pointer (some ⟨q,0,none⟩)] w (vGu w q (wdE 84 s) (wdL 84 s k.toNat L)):=by
 have H:=hid h;have C:=hid (fun w=>rlist_any s 4094 w hs);have EE:=hid (show wdE 84 s=if lsDB s 4094=true then 0 else 21 by simp [wdE,wdB]);have EL:=hid (show wdL 84 s k.toNat L={L with tagged:=lsD s 4094} by simp [wdL]);generalize wdE 84 s=E at *;generalize wdL 84 s k.toNat L=M at *;generalize lsD s 4094=V at *;generalize lsDB s 4094=b at *;have hq:=h.lt;clear h
 cases b
 · go_enter Tryz.func182,Tryz.ntmps182
   go_wp2_with (go_at_call 203;(with_reducible refine (C.out _).mono ?_);rintro e w1 ⟨A,n,c,rfl,g1,hb1,g3⟩;have B1:=hid hb1;have F1:=hid (FSl.got g1 g3 hq);have H1:=hid (H.out.below hb1);clear hb1 g1 g3;obtain ⟨z0,z1,z2,z3,z4,z5,z6,z7,z8,z9,z10,z11,z12,z13,z14,z15,z16⟩:=H1.out.cells;have zf:=H1.out.frozen;have zl:=H1.out.lt);exact bodyPost_ret (v:=.int .i64 21) (by simp [results,Tryz.results182,go_sem]) rfl ⟨by rw [EE.out];rfl,⟨_,_,_,_,_,H1.out.set_tagged ⟨A,n,c⟩ V F1.out,fun _=>EL.out.symm⟩,(Ex.of_below B1.out).set 13 _⟩
 · go_enter Tryz.func182,Tryz.ntmps182
   go_wp2_with (go_at_call 203;(with_reducible refine (C.out _).mono ?_);rintro e w1 ⟨A,n,c,rfl,g1,hb1,g3⟩;have B1:=hid hb1;have F1:=hid (FSl.got g1 g3 hq);have H1:=hid (H.out.below hb1);clear hb1 g1 g3;obtain ⟨z0,z1,z2,z3,z4,z5,z6,z7,z8,z9,z10,z11,z12,z13,z14,z15,z16⟩:=H1.out.cells;have zf:=H1.out.frozen;have zl:=H1.out.lt);exact bodyPost_ret (v:=.int .i64 0) (by simp [results,Tryz.results182,go_sem]) rfl ⟨by rw [EE.out];rfl,⟨_,_,_,_,_,H1.out.set_tagged ⟨A,n,c⟩ V F1.out,fun _=>EL.out.symm⟩,(Ex.of_below B1.out).set 13 _⟩
theorem rword_R (s:List UInt8) (k:Int) (_hk:0≤k) (q:Nat) (L:LV) (s1 s2 s3 s4:SlV) (w:World) (h:LBox w q L s1 s2 s3 s4) (hs:s.length≤1000000):
 Calls Tryz.prog 182 #[.int .u8 82,.string (str s),.int .i64 k,.pointer (some ⟨q,0,none⟩)] w (vGu w q (wdE 82 s) (wdL 82 s k.toNat L)):=by
 have H:=hid h;have C:=hid (fun w=>rlist_any s 65535 w hs);have EE:=hid (show wdE 82 s=if lsDB s 65535=true then 0 else 21 by simp [wdE,wdB]);have EL:=hid (show wdL 82 s k.toNat L={L with imports:=L.exports,exports:=lsD s 65535} by simp [wdL]);generalize wdE 82 s=E at *;generalize wdL 82 s k.toNat L=M at *;generalize lsD s 65535=V at *;generalize lsDB s 65535=b at *;have hq:=h.lt;clear h
 cases b
 · go_enter Tryz.func182,Tryz.ntmps182
   go_wp2_with (go_at_call 203;(with_reducible refine (C.out _).mono ?_);rintro e w1 ⟨A,n,c,rfl,g1,hb1,g3⟩;have B1:=hid hb1;have F1:=hid (FSl.got g1 g3 hq);have H1:=hid (H.out.below hb1);clear hb1 g1 g3;obtain ⟨z0,z1,z2,z3,z4,z5,z6,z7,z8,z9,z10,z11,z12,z13,z14,z15,z16⟩:=H1.out.cells;have zf:=H1.out.frozen;have zl:=H1.out.lt);exact bodyPost_ret (v:=.int .i64 21) (by simp [results,Tryz.results182,go_sem]) rfl ⟨by rw [EE.out];rfl,⟨_,_,_,_,_,(H1.out.set_imports s3 L.exports H1.out.2.2.2.1).set_exports ⟨A,n,c⟩ V (F1.out.set _ _),fun _=>EL.out.symm⟩,((Ex.of_below B1.out).set 14 _).set 15 _⟩
 · go_enter Tryz.func182,Tryz.ntmps182
   go_wp2_with (go_at_call 203;(with_reducible refine (C.out _).mono ?_);rintro e w1 ⟨A,n,c,rfl,g1,hb1,g3⟩;have B1:=hid hb1;have F1:=hid (FSl.got g1 g3 hq);have H1:=hid (H.out.below hb1);clear hb1 g1 g3;obtain ⟨z0,z1,z2,z3,z4,z5,z6,z7,z8,z9,z10,z11,z12,z13,z14,z15,z16⟩:=H1.out.cells;have zf:=H1.out.frozen;have zl:=H1.out.lt);exact bodyPost_ret (v:=.int .i64 0) (by simp [results,Tryz.results182,go_sem]) rfl ⟨by rw [EE.out];rfl,⟨_,_,_,_,_,(H1.out.set_imports s3 L.exports H1.out.2.2.2.1).set_exports ⟨A,n,c⟩ V (F1.out.set _ _),fun _=>EL.out.symm⟩,((Ex.of_below B1.out).set 14 _).set 15 _⟩
theorem rword_M (s:List UInt8) (k:Int) (_hk:0≤k) (q:Nat) (L:LV) (s1 s2 s3 s4:SlV) (w:World) (h:LBox w q L s1 s2 s3 s4) (_hs:s.length≤1000000):
 Calls Tryz.prog 182 #[.int .u8 77,.string (str s),.int .i64 k,.pointer (some ⟨q,0,none⟩)] w (vGu w q (wdE 77 s) (wdL 77 s k.toNat L)):=by
 have H:=hid h;have C:=hid (fun w=>Mac.refRead_any (str s) w);obtain ⟨m0,m1⟩:=mc_bd s;have CS:=hid (fun w=>station_any (mcV s) w m0 m1);rw [show Mac.rdV (str s)=mcV s from rfl,show Mac.rdB (str s)=mcB s from rfl] at C;have EE:=hid (show wdE 77 s=if (mcB s && stB (mcV s))=true then 0 else 21 by simp [wdE,wdB]);have EL:=hid (show wdL 77 s k.toNat L={L with mac:=mcV s} by simp [wdL])
 generalize wdE 77 s=E at *;generalize wdL 77 s k.toNat L=M at *;generalize stB (mcV s)=d at *;generalize mcV s=V at *;generalize mcB s=b at *;clear h
 cases b
 · go_enter Tryz.func182,Tryz.ntmps182
   go_wp2_with (go_at_call 201;(with_reducible refine (C.out _).mono ?_);rintro e w1 ⟨rfl,hb1⟩;have B1:=hid hb1;have H1:=hid (H.out.below hb1);clear hb1;obtain ⟨z0,z1,z2,z3,z4,z5,z6,z7,z8,z9,z10,z11,z12,z13,z14,z15,z16⟩:=H1.out.cells;have zf:=H1.out.frozen;have zl:=H1.out.lt);exact bodyPost_ret (v:=.int .i64 21) (by simp [results,Tryz.results182,go_sem]) rfl ⟨by rw [EE.out];rfl,⟨_,_,_,_,_,H1.out.set_mac V,fun _=>EL.out.symm⟩,(Ex.of_below B1.out).set 7 _⟩
 · cases d
   · go_enter Tryz.func182,Tryz.ntmps182
     go_wp2_with (first
      |(go_at_call 201;(with_reducible refine (C.out _).mono ?_);rintro e w1 ⟨rfl,hb1⟩;have B1:=hid hb1;have H1:=hid (H.out.below hb1);clear hb1;obtain ⟨z0,z1,z2,z3,z4,z5,z6,z7,z8,z9,z10,z11,z12,z13,z14,z15,z16⟩:=H1.out.cells;have zf:=H1.out.frozen;have zl:=H1.out.lt)
      |(go_at_call 202;(with_reducible refine (CS.out _).mono ?_);rintro e w2 ⟨rfl,hb2⟩;have H2:=hid ((H1.out.set_mac V).below hb2);have X2:=hid (((Ex.of_below B1.out).set 7 _).trans (Ex.of_below hb2));clear hb2))
     exact bodyPost_ret (v:=.int .i64 21) (by simp [results,Tryz.results182,go_sem]) rfl ⟨by rw [EE.out];rfl,⟨_,_,_,_,_,H2.out,fun _=>EL.out.symm⟩,X2.out⟩
   · go_enter Tryz.func182,Tryz.ntmps182
     go_wp2_with (first
      |(go_at_call 201;(with_reducible refine (C.out _).mono ?_);rintro e w1 ⟨rfl,hb1⟩;have B1:=hid hb1;have H1:=hid (H.out.below hb1);clear hb1;obtain ⟨z0,z1,z2,z3,z4,z5,z6,z7,z8,z9,z10,z11,z12,z13,z14,z15,z16⟩:=H1.out.cells;have zf:=H1.out.frozen;have zl:=H1.out.lt)
      |(go_at_call 202;(with_reducible refine (CS.out _).mono ?_);rintro e w2 ⟨rfl,hb2⟩;have H2:=hid ((H1.out.set_mac V).below hb2);have X2:=hid (((Ex.of_below B1.out).set 7 _).trans (Ex.of_below hb2));clear hb2))
     exact bodyPost_ret (v:=.int .i64 0) (by simp [results,Tryz.results182,go_sem]) rfl ⟨by rw [EE.out];rfl,⟨_,_,_,_,_,H2.out,fun _=>EL.out.symm⟩,X2.out⟩
theorem rword_A (s:List UInt8) (k:Int) (_hk:0≤k) (q:Nat) (L:LV) (s1 s2 s3 s4:SlV) (w:World) (h:LBox w q L s1 s2 s3 s4) (hs:s.length≤1000000):
 Calls Tryz.prog 182 #[.int .u8 65,.string (str s),.int .i64 k,.pointer (some ⟨q,0,none⟩)] w (vGu w q (wdE 65 s) (wdL 65 s k.toNat L)):=by
 have H:=hid h;have C:=hid (fun w=>refRead_any s w (by omega));obtain ⟨m0,m1⟩:=rdV_bd s;have EE:=hid (show wdE 65 s=if (rdB s && decide (0<rdV s))=true then 0 else 21 by simp [wdE,wdB]);have EL:=hid (show wdL 65 s k.toNat L={L with addr:=rdV s} by simp [wdL]);generalize wdE 65 s=E at *;generalize wdL 65 s k.toNat L=M at *;generalize rdV s=V at *;generalize rdB s=b at *;generalize hd:decide (0<V)=d at *
 clear h
 cases b
 · go_enter Tryz.func182,Tryz.ntmps182
   go_wp2_with (go_at_call 204;(with_reducible refine (C.out _).mono ?_);rintro e w1 ⟨rfl,hb1⟩;have B1:=hid hb1;have H1:=hid (H.out.below hb1);clear hb1;obtain ⟨z0,z1,z2,z3,z4,z5,z6,z7,z8,z9,z10,z11,z12,z13,z14,z15,z16⟩:=H1.out.cells;have zf:=H1.out.frozen;have zl:=H1.out.lt);exact bodyPost_ret (v:=.int .i64 21) (by simp [results,Tryz.results182,go_sem]) rfl ⟨by rw [EE.out];rfl,⟨_,_,_,_,_,H1.out.set_addr V,fun _=>EL.out.symm⟩,(Ex.of_below B1.out).set 8 _⟩
 · cases d
   · go_enter Tryz.func182,Tryz.ntmps182
     go_wp2_with (go_at_call 204;(with_reducible refine (C.out _).mono ?_);rintro e w1 ⟨rfl,hb1⟩;have B1:=hid hb1;have H1:=hid (H.out.below hb1);clear hb1;obtain ⟨z0,z1,z2,z3,z4,z5,z6,z7,z8,z9,z10,z11,z12,z13,z14,z15,z16⟩:=H1.out.cells;have zf:=H1.out.frozen;have zl:=H1.out.lt);exact bodyPost_ret (v:=.int .i64 21) (by simp [results,Tryz.results182,go_sem]) rfl ⟨by rw [EE.out];rfl,⟨_,_,_,_,_,H1.out.set_addr V,fun _=>EL.out.symm⟩,(Ex.of_below B1.out).set 8 _⟩
   · go_enter Tryz.func182,Tryz.ntmps182
     go_wp2_with (go_at_call 204;(with_reducible refine (C.out _).mono ?_);rintro e w1 ⟨rfl,hb1⟩;have B1:=hid hb1;have H1:=hid (H.out.below hb1);clear hb1;obtain ⟨z0,z1,z2,z3,z4,z5,z6,z7,z8,z9,z10,z11,z12,z13,z14,z15,z16⟩:=H1.out.cells;have zf:=H1.out.frozen;have zl:=H1.out.lt);exact bodyPost_ret (v:=.int .i64 0) (by simp [results,Tryz.results182,go_sem]) rfl ⟨by rw [EE.out];rfl,⟨_,_,_,_,_,H1.out.set_addr V,fun _=>EL.out.symm⟩,(Ex.of_below B1.out).set 8 _⟩
theorem rword_L (s:List UInt8) (k:Int) (_hk:0≤k) (q:Nat) (L:LV) (s1 s2 s3 s4:SlV) (w:World) (h:LBox w q L s1 s2 s3 s4) (hs:s.length≤1000000):
 Calls Tryz.prog 182 #[.int .u8 76,.string (str s),.int .i64 k,.pointer (some ⟨q,0,none⟩)] w (vGu w q (wdE 76 s) (wdL 76 s k.toNat L)):=by
 have H:=hid h;have C:=hid (fun w=>vHs s w hs);have hne:=lsA_some (s:=s);have EE:=hid (show wdE 76 s=if (lsB rdA s && decide (0<(lsV rdA s).getD 0 0))=true then 0 else 21 by simp [wdE,wdB]);have EL:=hid (show wdL 76 s k.toNat L={L with addrs:=lsV rdA s} by simp [wdL]);generalize wdE 76 s=E at *;generalize wdL 76 s k.toNat L=M at *;generalize lsV rdA s=V at *;generalize lsB rdA s=b at *
 have hq:=h.lt;clear h
 cases b
 · go_enter Tryz.func182,Tryz.ntmps182
   go_wp2_with (go_at_call 205;(with_reducible refine (C.out _).mono ?_);rintro e w1 ⟨A,n,c,rfl,g1,hb1,g3⟩;have B1:=hid hb1;have F1:=hid (FSl.got g1 g3 hq);have H1:=hid (H.out.below hb1);clear hb1 g1 g3;obtain ⟨z0,z1,z2,z3,z4,z5,z6,z7,z8,z9,z10,z11,z12,z13,z14,z15,z16⟩:=H1.out.cells;have zf:=H1.out.frozen;have zl:=H1.out.lt);exact bodyPost_ret (v:=.int .i64 21) (by simp [results,Tryz.results182,go_sem]) rfl ⟨by rw [EE.out];rfl,⟨_,_,_,_,_,H1.out.set_addrs ⟨A,n,c⟩ V F1.out,fun _=>EL.out.symm⟩,(Ex.of_below B1.out).set 16 _⟩
 · have hn:=hne rfl
   clear hne;generalize hv:V.getD 0 0=v at *;have hv2:=hid hv;clear hv;generalize hd:decide (0<v)=d at *
   cases d
   · go_enter Tryz.func182,Tryz.ntmps182
     go_wp2_with (go_at_call 205;(with_reducible refine (C.out _).mono ?_);rintro e w1 ⟨A,n,c,rfl,g1,hb1,g3⟩;have B1:=hid hb1;have F1:=hid (FSl.got g1 g3 hq);have H1:=hid (H.out.below hb1);have gl:=g1.len;obtain ⟨b,off,hA,hb,hc⟩:=g1.2.2.2 (by omega);subst hA;have hbq:b≠q:=(by have:=g3 _ rfl;simp at this;omega);have hc0:=hc 0 (by omega);rw [hv2.out] at hc0;have hcs:∀u:Value,(w1.setCell ⟨q,16,none⟩ u).cell? ⟨b,off+0,none⟩=some (.int .u32 v):=fun u=>(World.cell?_setCell_other _ _ _ _ (by intro e;injection e with e1 _;exact hbq e1.symm)).trans hc0;simp only [Nat.add_zero] at hcs;have hn1:(0:Int)<(n:Int):=(by omega);clear hc hc0;clear hb1 g1 g3;obtain ⟨z0,z1,z2,z3,z4,z5,z6,z7,z8,z9,z10,z11,z12,z13,z14,z15,z16⟩:=H1.out.cells;have zf:=H1.out.frozen;have zl:=H1.out.lt)
     exact bodyPost_ret (v:=.int .i64 21) (by simp [results,Tryz.results182,go_sem]) rfl ⟨by rw [EE.out];rfl,⟨_,_,_,_,_,H1.out.set_addrs ⟨some ⟨b,off,none⟩,n,c⟩ V F1.out,fun _=>EL.out.symm⟩,(Ex.of_below B1.out).set 16 _⟩
   · go_enter Tryz.func182,Tryz.ntmps182
     go_wp2_with (go_at_call 205;(with_reducible refine (C.out _).mono ?_);rintro e w1 ⟨A,n,c,rfl,g1,hb1,g3⟩;have B1:=hid hb1;have F1:=hid (FSl.got g1 g3 hq);have H1:=hid (H.out.below hb1);have gl:=g1.len;obtain ⟨b,off,hA,hb,hc⟩:=g1.2.2.2 (by omega);subst hA;have hbq:b≠q:=(by have:=g3 _ rfl;simp at this;omega);have hc0:=hc 0 (by omega);rw [hv2.out] at hc0;have hcs:∀u:Value,(w1.setCell ⟨q,16,none⟩ u).cell? ⟨b,off+0,none⟩=some (.int .u32 v):=fun u=>(World.cell?_setCell_other _ _ _ _ (by intro e;injection e with e1 _;exact hbq e1.symm)).trans hc0;simp only [Nat.add_zero] at hcs;have hn1:(0:Int)<(n:Int):=(by omega);clear hc hc0;clear hb1 g1 g3;obtain ⟨z0,z1,z2,z3,z4,z5,z6,z7,z8,z9,z10,z11,z12,z13,z14,z15,z16⟩:=H1.out.cells;have zf:=H1.out.frozen;have zl:=H1.out.lt)
     exact bodyPost_ret (v:=.int .i64 0) (by simp [results,Tryz.results182,go_sem]) rfl ⟨by rw [EE.out];rfl,⟨_,_,_,_,_,H1.out.set_addrs ⟨some ⟨b,off,none⟩,n,c⟩ V F1.out,fun _=>EL.out.symm⟩,(Ex.of_below B1.out).set 16 _⟩
theorem rword_S (s:List UInt8) (k:Int) (_hk:0≤k) (q:Nat) (L:LV) (s1 s2 s3 s4:SlV) (w:World) (h:LBox w q L s1 s2 s3 s4) (hs:s.length≤1000000):
 Calls Tryz.prog 182 #[.int .u8 83,.string (str s),.int .i64 k,.pointer (some ⟨q,0,none⟩)] w (vGu w q (wdE 83 s) (wdL 83 s k.toNat L)):=by
 have H:=hid h;have C:=hid (fun w=>vHn s w (by omega));obtain ⟨m0,m1⟩:=pa_bd s;rw [show pfV s=.agg #[.int .u32 (paV s),.int .i64 (pbV s)] from rfl] at C;have CS:=hid (fun w=>subnet_any (paV s) (pbV s) m0 m1 w);have EE:=hid (show wdE 83 s=if (pfB s && snB (paV s) (pbV s))=true then 0 else 21 by simp [wdE,wdB]);have EL:=hid (show wdL 83 s k.toNat L={L with addr:=paV s,bits:=pbV s} by simp [wdL])
 generalize wdE 83 s=E at *;generalize wdL 83 s k.toNat L=M at *;generalize snB (paV s) (pbV s)=d at *;generalize paV s=V at *;generalize pbV s=U at *;generalize pfB s=b at *;clear h
 cases b
 · go_enter Tryz.func182,Tryz.ntmps182
   go_wp2_with (go_at_call 206;(with_reducible refine (C.out _).mono ?_);rintro e w1 ⟨rfl,hb1⟩;have B1:=hid hb1;have H1:=hid (H.out.below hb1);clear hb1;obtain ⟨z0,z1,z2,z3,z4,z5,z6,z7,z8,z9,z10,z11,z12,z13,z14,z15,z16⟩:=H1.out.cells;have zf:=H1.out.frozen;have zl:=H1.out.lt);exact bodyPost_ret (v:=.int .i64 21) (by simp [results,Tryz.results182,go_sem]) rfl ⟨by rw [EE.out];rfl,⟨_,_,_,_,_,((H1.out.set_addr V).set_bits U).alloc _,fun _=>EL.out.symm⟩,(((Ex.of_below B1.out).set 8 _).set 9 _).alloc _⟩
 · cases d
   · go_enter Tryz.func182,Tryz.ntmps182
     go_wp2_with (first
      |(go_at_call 206;(with_reducible refine (C.out _).mono ?_);rintro e w1 ⟨rfl,hb1⟩;have B1:=hid hb1;have H1:=hid (H.out.below hb1);clear hb1;obtain ⟨z0,z1,z2,z3,z4,z5,z6,z7,z8,z9,z10,z11,z12,z13,z14,z15,z16⟩:=H1.out.cells;have zf:=H1.out.frozen;have zl:=H1.out.lt)
      |(go_at_call 207;(with_reducible refine (CS.out _).mono ?_);rintro e w2 ⟨rfl,hb2⟩;obtain ⟨k0,k1,k2,kl,kb⟩:=sub_keep H1.out.lt hb2;clear hb2;have hb2:=kb;have H2:=hid (H1.out.below kb);have X2:=hid ((Ex.of_below (q:=q) B1.out).trans (Ex.of_below kb));clear kb;clear hb2 z0 z1 z2 z3 z4 z5 z6 z7 z8 z9 z10 z11 z12 z13 z14 z15 z16 zf zl;obtain ⟨z0,z1,z2,z3,z4,z5,z6,z7,z8,z9,z10,z11,z12,z13,z14,z15,z16⟩:=H2.out.cells;have zf:=H2.out.frozen;have zl:=H2.out.lt))
     exact bodyPost_ret (v:=.int .i64 21) (by simp [results,Tryz.results182,go_sem]) rfl ⟨by rw [EE.out];rfl,⟨_,_,_,_,_,(H2.out.set_addr V).set_bits U,fun _=>EL.out.symm⟩,(X2.out.set 8 _).set 9 _⟩
   · go_enter Tryz.func182,Tryz.ntmps182
     go_wp2_with (first
      |(go_at_call 206;(with_reducible refine (C.out _).mono ?_);rintro e w1 ⟨rfl,hb1⟩;have B1:=hid hb1;have H1:=hid (H.out.below hb1);clear hb1;obtain ⟨z0,z1,z2,z3,z4,z5,z6,z7,z8,z9,z10,z11,z12,z13,z14,z15,z16⟩:=H1.out.cells;have zf:=H1.out.frozen;have zl:=H1.out.lt)
      |(go_at_call 207;(with_reducible refine (CS.out _).mono ?_);rintro e w2 ⟨rfl,hb2⟩;obtain ⟨k0,k1,k2,kl,kb⟩:=sub_keep H1.out.lt hb2;clear hb2;have hb2:=kb;have H2:=hid (H1.out.below kb);have X2:=hid ((Ex.of_below (q:=q) B1.out).trans (Ex.of_below kb));clear kb;clear hb2 z0 z1 z2 z3 z4 z5 z6 z7 z8 z9 z10 z11 z12 z13 z14 z15 z16 zf zl;obtain ⟨z0,z1,z2,z3,z4,z5,z6,z7,z8,z9,z10,z11,z12,z13,z14,z15,z16⟩:=H2.out.cells;have zf:=H2.out.frozen;have zl:=H2.out.lt))
     exact bodyPost_ret (v:=.int .i64 0) (by simp [results,Tryz.results182,go_sem]) rfl ⟨by rw [EE.out];rfl,⟨_,_,_,_,_,(H2.out.set_addr V).set_bits U,fun _=>EL.out.symm⟩,(X2.out.set 8 _).set 9 _⟩
theorem kind_device (w:World):Calls Tryz.prog 181 #[.string (str [100,101,118,105,99,101])] w fun e w'=>e=.returned (.int .i64 1)∧Below w.heap.size w w':=by
 go_enter Tryz.func181,Tryz.ntmps181
 go_wp2;refine wp_loop_rounds 1 ?_;rw [rounds_succ];go_wp2;go_ret;exact ⟨rfl,(Below.refl _ _).alloc (Nat.le_refl _) _⟩
theorem kind_port (w:World):Calls Tryz.prog 181 #[.string (str [112,111,114,116])] w fun e w'=>e=.returned (.int .i64 2)∧Below w.heap.size w w':=by
 go_enter Tryz.func181,Tryz.ntmps181
 go_wp2;refine wp_loop_rounds 2 ?_;rw [rounds_succ];go_wp2;rw [rounds_succ];go_wp2;go_ret;exact ⟨rfl,(Below.refl _ _).alloc (Nat.le_refl _) _⟩
theorem kind_link (w:World):Calls Tryz.prog 181 #[.string (str [108,105,110,107])] w fun e w'=>e=.returned (.int .i64 3)∧Below w.heap.size w w':=by
 go_enter Tryz.func181,Tryz.ntmps181
 go_wp2;refine wp_loop_rounds 3 ?_;rw [rounds_succ];go_wp2;rw [rounds_succ];go_wp2;rw [rounds_succ];go_wp2;go_ret;exact ⟨rfl,(Below.refl _ _).alloc (Nat.le_refl _) _⟩
theorem kind_static (w:World):Calls Tryz.prog 181 #[.string (str [115,116,97,116,105,99])] w fun e w'=>e=.returned (.int .i64 4)∧Below w.heap.size w w':=by
 go_enter Tryz.func181,Tryz.ntmps181
 go_wp2;refine wp_loop_rounds 4 ?_;rw [rounds_succ];go_wp2;rw [rounds_succ];go_wp2;rw [rounds_succ];go_wp2;rw [rounds_succ];go_wp2;go_ret;exact ⟨rfl,(Below.refl _ _).alloc (Nat.le_refl _) _⟩
theorem kind_vtep (w:World):Calls Tryz.prog 181 #[.string (str [118,116,101,112])] w fun e w'=>e=.returned (.int .i64 5)∧Below w.heap.size w w':=by
 go_enter Tryz.func181,Tryz.ntmps181
 go_wp2;refine wp_loop_rounds 5 ?_;rw [rounds_succ];go_wp2;rw [rounds_succ];go_wp2;rw [rounds_succ];go_wp2;rw [rounds_succ];go_wp2;rw [rounds_succ];go_wp2;go_ret;exact ⟨rfl,(Below.refl _ _).alloc (Nat.le_refl _) _⟩
theorem kind_vni (w:World):Calls Tryz.prog 181 #[.string (str [118,110,105])] w fun e w'=>e=.returned (.int .i64 6)∧Below w.heap.size w w':=by
 go_enter Tryz.func181,Tryz.ntmps181
 go_wp2;refine wp_loop_rounds 6 ?_;rw [rounds_succ];go_wp2;rw [rounds_succ];go_wp2;rw [rounds_succ];go_wp2;rw [rounds_succ];go_wp2;rw [rounds_succ];go_wp2;rw [rounds_succ];go_wp2;go_ret;exact ⟨rfl,(Below.refl _ _).alloc (Nat.le_refl _) _⟩
theorem kind_flood (w:World):Calls Tryz.prog 181 #[.string (str [102,108,111,111,100])] w fun e w'=>e=.returned (.int .i64 7)∧Below w.heap.size w w':=by
 go_enter Tryz.func181,Tryz.ntmps181
 go_wp2;refine wp_loop_rounds 7 ?_;rw [rounds_succ];go_wp2;rw [rounds_succ];go_wp2;rw [rounds_succ];go_wp2;rw [rounds_succ];go_wp2;rw [rounds_succ];go_wp2;rw [rounds_succ];go_wp2;rw [rounds_succ];go_wp2;go_ret;exact ⟨rfl,(Below.refl _ _).alloc (Nat.le_refl _) _⟩
theorem kind_vrf (w:World):Calls Tryz.prog 181 #[.string (str [118,114,102])] w fun e w'=>e=.returned (.int .i64 8)∧Below w.heap.size w w':=by
 go_enter Tryz.func181,Tryz.ntmps181
 go_wp2;refine wp_loop_rounds 8 ?_;rw [rounds_succ];go_wp2;rw [rounds_succ];go_wp2;rw [rounds_succ];go_wp2;rw [rounds_succ];go_wp2;rw [rounds_succ];go_wp2;rw [rounds_succ];go_wp2;rw [rounds_succ];go_wp2;rw [rounds_succ];go_wp2;go_ret;exact ⟨rfl,(Below.refl _ _).alloc (Nat.le_refl _) _⟩
theorem kind_irb (w:World):Calls Tryz.prog 181 #[.string (str [105,114,98])] w fun e w'=>e=.returned (.int .i64 9)∧Below w.heap.size w w':=by
 go_enter Tryz.func181,Tryz.ntmps181
 go_wp2;refine wp_loop_rounds 9 ?_;rw [rounds_succ];go_wp2;rw [rounds_succ];go_wp2;rw [rounds_succ];go_wp2;rw [rounds_succ];go_wp2;rw [rounds_succ];go_wp2;rw [rounds_succ];go_wp2;rw [rounds_succ];go_wp2;rw [rounds_succ];go_wp2;rw [rounds_succ];go_wp2;go_ret;exact ⟨rfl,(Below.refl _ _).alloc (Nat.le_refl _) _⟩
theorem kind_none (s:List UInt8) (w:World) (n1:(([100,101,118,105,99,101]:List UInt8) == s)=false) (n2:(([112,111,114,116]:List UInt8) == s)=false) (n3:(([108,105,110,107]:List UInt8) == s)=false) (n4:(([115,116,97,116,105,99]:List UInt8) == s)=false) (n5:(([118,116,101,112]:List UInt8) == s)=false) (n6:(([118,110,105]:List UInt8) == s)=false) (n7:(([102,108,111,111,100]:List UInt8) == s)=false) (n8:(([118,114,102]:List UInt8) == s)=false) (n9:(([105,114,98]:List UInt8) == s)=false):Calls Tryz.prog 181 #[.string (str s)] w fun e w'=>e=.returned (.int .i64 0)∧Below w.heap.size w w':=by
 go_enter Tryz.func181,Tryz.ntmps181
 go_wp2;refine wp_loop_rounds 10 ?_;rw [rounds_succ];go_wp2;rw [rounds_succ];go_wp2;rw [rounds_succ];go_wp2;rw [rounds_succ];go_wp2;rw [rounds_succ];go_wp2;rw [rounds_succ];go_wp2;rw [rounds_succ];go_wp2;rw [rounds_succ];go_wp2;rw [rounds_succ];go_wp2;rw [rounds_succ];go_wp2;go_ret;exact ⟨rfl,(Below.refl _ _).alloc (Nat.le_refl _) _⟩
theorem kind_any (s:List UInt8) (w:World):Calls Tryz.prog 181 #[.string (str s)] w fun e w'=>e=.returned (.int .i64 (kdV s))∧Below w.heap.size w w':=by
 by_cases e1:s=[100,101,118,105,99,101]
 · rw [show kdV s=1 by rw [e1];rfl,e1]
   exact kind_device w
 by_cases e2:s=[112,111,114,116]
 · rw [show kdV s=2 by rw [e2];rfl,e2]
   exact kind_port w
 by_cases e3:s=[108,105,110,107]
 · rw [show kdV s=3 by rw [e3];rfl,e3]
   exact kind_link w
 by_cases e4:s=[115,116,97,116,105,99]
 · rw [show kdV s=4 by rw [e4];rfl,e4]
   exact kind_static w
 by_cases e5:s=[118,116,101,112]
 · rw [show kdV s=5 by rw [e5];rfl,e5]
   exact kind_vtep w
 by_cases e6:s=[118,110,105]
 · rw [show kdV s=6 by rw [e6];rfl,e6]
   exact kind_vni w
 by_cases e7:s=[102,108,111,111,100]
 · rw [show kdV s=7 by rw [e7];rfl,e7]
   exact kind_flood w
 by_cases e8:s=[118,114,102]
 · rw [show kdV s=8 by rw [e8];rfl,e8]
   exact kind_vrf w
 by_cases e9:s=[105,114,98]
 · rw [show kdV s=9 by rw [e9];rfl,e9]
   exact kind_irb w
 have f:∀x:List UInt8,¬s=x→(x == s)=false:=fun x h=>by simpa using fun e=>h e.symm
 rw [show kdV s=0 by unfold kdV;rw [if_neg e1,if_neg (show ¬s=vBr from e2),if_neg e3,if_neg e4,if_neg e5,if_neg e6,if_neg e7,if_neg e8,if_neg e9]];exact kind_none s w (f _ e1) (f _ e2) (f _ e3) (f _ e4) (f _ e5) (f _ e6) (f _ e7) (f _ e8) (f _ e9)
theorem form_device (A:Option Addr) (n c:Nat) (ws:List (List UInt8)) (w:World) (h:SSl w A n c ws) (hn:0<n) (e:wat ws 0=[100,101,118,105,99,101]):Calls Tryz.prog 180 #[.slice A n c] w fun e w'=>e=.returned (.string (str [78,80,77]))∧w=w':=by
 have hle:=h.le;obtain ⟨b,off,rfl,hb,hc⟩:=h.at_ (by omega);have c0:w.cell? ⟨b,off,none⟩=some (.string (str (wat ws 0))):=hc 0 (by omega)
 have j0:(0:Int)<(n:Int):=by omega
 rw [e] at c0;clear h hc e
 go_enter Tryz.func180,Tryz.ntmps180
 go_wp2;go_ret;exact ⟨rfl,rfl⟩
theorem form_link (A:Option Addr) (n c:Nat) (ws:List (List UInt8)) (w:World) (h:SSl w A n c ws) (hn:0<n) (e:wat ws 0=[108,105,110,107]):Calls Tryz.prog 180 #[.slice A n c] w fun e w'=>e=.returned (.string (str [78,78,78,78]))∧w=w':=by
 have hle:=h.le;obtain ⟨b,off,rfl,hb,hc⟩:=h.at_ (by omega);have c0:w.cell? ⟨b,off,none⟩=some (.string (str (wat ws 0))):=hc 0 (by omega)
 have j0:(0:Int)<(n:Int):=by omega
 rw [e] at c0;clear h hc e
 go_enter Tryz.func180,Tryz.ntmps180
 go_wp2;go_ret;exact ⟨rfl,rfl⟩
theorem form_static (A:Option Addr) (n c:Nat) (ws:List (List UInt8)) (w:World) (h:SSl w A n c ws) (hn:0<n) (e:wat ws 0=[115,116,97,116,105,99]):Calls Tryz.prog 180 #[.slice A n c] w fun e w'=>e=.returned (.string (str [78,86,77,78]))∧w=w':=by
 have hle:=h.le;obtain ⟨b,off,rfl,hb,hc⟩:=h.at_ (by omega);have c0:w.cell? ⟨b,off,none⟩=some (.string (str (wat ws 0))):=hc 0 (by omega)
 have j0:(0:Int)<(n:Int):=by omega
 rw [e] at c0;clear h hc e
 go_enter Tryz.func180,Tryz.ntmps180
 go_wp2;go_ret;exact ⟨rfl,rfl⟩
theorem form_vtep (A:Option Addr) (n c:Nat) (ws:List (List UInt8)) (w:World) (h:SSl w A n c ws) (hn:0<n) (e:wat ws 0=[118,116,101,112]):Calls Tryz.prog 180 #[.slice A n c] w fun e w'=>e=.returned (.string (str [78,65]))∧w=w':=by
 have hle:=h.le;obtain ⟨b,off,rfl,hb,hc⟩:=h.at_ (by omega);have c0:w.cell? ⟨b,off,none⟩=some (.string (str (wat ws 0))):=hc 0 (by omega)
 have j0:(0:Int)<(n:Int):=by omega
 rw [e] at c0;clear h hc e
 go_enter Tryz.func180,Tryz.ntmps180
 go_wp2;go_ret;exact ⟨rfl,rfl⟩
theorem form_vni (A:Option Addr) (n c:Nat) (ws:List (List UInt8)) (w:World) (h:SSl w A n c ws) (hn:0<n) (e:wat ws 0=[118,110,105]):Calls Tryz.prog 180 #[.slice A n c] w fun e w'=>e=.returned (.string (str [78,86,73]))∧w=w':=by
 have hle:=h.le;obtain ⟨b,off,rfl,hb,hc⟩:=h.at_ (by omega);have c0:w.cell? ⟨b,off,none⟩=some (.string (str (wat ws 0))):=hc 0 (by omega)
 have j0:(0:Int)<(n:Int):=by omega
 rw [e] at c0;clear h hc e
 go_enter Tryz.func180,Tryz.ntmps180
 go_wp2;go_ret;exact ⟨rfl,rfl⟩
theorem form_flood (A:Option Addr) (n c:Nat) (ws:List (List UInt8)) (w:World) (h:SSl w A n c ws) (hn:0<n) (e:wat ws 0=[102,108,111,111,100]):Calls Tryz.prog 180 #[.slice A n c] w fun e w'=>e=.returned (.string (str [78,73,76]))∧w=w':=by
 have hle:=h.le;obtain ⟨b,off,rfl,hb,hc⟩:=h.at_ (by omega);have c0:w.cell? ⟨b,off,none⟩=some (.string (str (wat ws 0))):=hc 0 (by omega)
 have j0:(0:Int)<(n:Int):=by omega
 rw [e] at c0;clear h hc e
 go_enter Tryz.func180,Tryz.ntmps180
 go_wp2;go_ret;exact ⟨rfl,rfl⟩
theorem form_vrf (A:Option Addr) (n c:Nat) (ws:List (List UInt8)) (w:World) (h:SSl w A n c ws) (hn:0<n) (e:wat ws 0=[118,114,102]):Calls Tryz.prog 180 #[.slice A n c] w fun e w'=>e=.returned (.string (str [78,78,82,82]))∧w=w':=by
 have hle:=h.le;obtain ⟨b,off,rfl,hb,hc⟩:=h.at_ (by omega);have c0:w.cell? ⟨b,off,none⟩=some (.string (str (wat ws 0))):=hc 0 (by omega)
 have j0:(0:Int)<(n:Int):=by omega
 rw [e] at c0;clear h hc e
 go_enter Tryz.func180,Tryz.ntmps180
 go_wp2;go_ret;exact ⟨rfl,rfl⟩
theorem form_irb (A:Option Addr) (n c:Nat) (ws:List (List UInt8)) (w:World) (h:SSl w A n c ws) (hn:0<n) (e:wat ws 0=[105,114,98]):Calls Tryz.prog 180 #[.slice A n c] w fun e w'=>e=.returned (.string (str [78,86,78,83]))∧w=w':=by
 have hle:=h.le;obtain ⟨b,off,rfl,hb,hc⟩:=h.at_ (by omega);have c0:w.cell? ⟨b,off,none⟩=some (.string (str (wat ws 0))):=hc 0 (by omega)
 have j0:(0:Int)<(n:Int):=by omega
 rw [e] at c0;clear h hc e
 go_enter Tryz.func180,Tryz.ntmps180
 go_wp2;go_ret;exact ⟨rfl,rfl⟩
theorem form_port7 (A:Option Addr) (n c:Nat) (ws:List (List UInt8)) (w:World) (h:SSl w A n c ws) (hn:n=7) (e:wat ws 0=vBr) (g:¬wat ws 4=vAt):Calls Tryz.prog 180 #[.slice A n c] w fun e w'=>e=.returned (.string (str [78,78,67,75,87,84]))∧w=w':=by
 have hle:=h.le;obtain ⟨b,off,rfl,hb,hc⟩:=h.at_ (by omega);have c0:w.cell? ⟨b,off,none⟩=some (.string (str (wat ws 0))):=hc 0 (by omega)
 have j0:(0:Int)<(n:Int):=by omega
 rw [e] at c0;have c4:w.cell? ⟨b,off+4,none⟩=some (.string (str (wat ws 4))):=hc 4 (by omega)
 have g2:(wat ws 4 != ([97,99,99,101,115,115]:List UInt8))=true:=by simpa [vAt] using g
 have g3:(wat ws 4 == ([97,99,99,101,115,115]:List UInt8))=false:=by simpa [vAt] using g
 generalize wat ws 4=x at *;unfold vBr at c0;clear h hc e g;subst hn
 go_enter Tryz.func180,Tryz.ntmps180
 go_wp2;go_ret;exact ⟨rfl,rfl⟩
theorem form_port6 (A:Option Addr) (n c:Nat) (ws:List (List UInt8)) (w:World) (h:SSl w A n c ws) (hn:n=6) (e:wat ws 0=vBr) (g:¬wat ws 4=vBd):Calls Tryz.prog 180 #[.slice A n c] w fun e w'=>e=.returned (.string (str [78,78,67,75,86]))∧w=w':=by
 have hle:=h.le;obtain ⟨b,off,rfl,hb,hc⟩:=h.at_ (by omega);have c0:w.cell? ⟨b,off,none⟩=some (.string (str (wat ws 0))):=hc 0 (by omega)
 have j0:(0:Int)<(n:Int):=by omega
 rw [e] at c0;have c4:w.cell? ⟨b,off+4,none⟩=some (.string (str (wat ws 4))):=hc 4 (by omega)
 have g2:(wat ws 4 != ([116,114,117,110,107]:List UInt8))=true:=by simpa [vBd] using g
 have g3:(wat ws 4 == ([116,114,117,110,107]:List UInt8))=false:=by simpa [vBd] using g
 generalize wat ws 4=x at *;unfold vBr at c0;clear h hc e g;subst hn
 go_enter Tryz.func180,Tryz.ntmps180
 go_wp2;go_ret;exact ⟨rfl,rfl⟩
theorem form_port7no (A:Option Addr) (n c:Nat) (ws:List (List UInt8)) (w:World) (h:SSl w A n c ws) (hn:n=7) (e:wat ws 0=vBr) (g:wat ws 4=vAt):Calls Tryz.prog 180 #[.slice A n c] w fun e w'=>e=.returned (.string (str []))∧w=w':=by
 have hle:=h.le;obtain ⟨b,off,rfl,hb,hc⟩:=h.at_ (by omega);have c0:w.cell? ⟨b,off,none⟩=some (.string (str (wat ws 0))):=hc 0 (by omega)
 have j0:(0:Int)<(n:Int):=by omega
 rw [e] at c0;have c4:w.cell? ⟨b,off+4,none⟩=some (.string (str (wat ws 4))):=hc 4 (by omega);rw [g] at c4;unfold vAt at c4;unfold vBr at c0;clear h hc e g;subst hn
 go_enter Tryz.func180,Tryz.ntmps180
 go_wp2;go_ret;exact ⟨rfl,rfl⟩
theorem form_port6no (A:Option Addr) (n c:Nat) (ws:List (List UInt8)) (w:World) (h:SSl w A n c ws) (hn:n=6) (e:wat ws 0=vBr) (g:wat ws 4=vBd):Calls Tryz.prog 180 #[.slice A n c] w fun e w'=>e=.returned (.string (str []))∧w=w':=by
 have hle:=h.le;obtain ⟨b,off,rfl,hb,hc⟩:=h.at_ (by omega);have c0:w.cell? ⟨b,off,none⟩=some (.string (str (wat ws 0))):=hc 0 (by omega)
 have j0:(0:Int)<(n:Int):=by omega
 rw [e] at c0;have c4:w.cell? ⟨b,off+4,none⟩=some (.string (str (wat ws 4))):=hc 4 (by omega);rw [g] at c4;unfold vBd at c4;unfold vBr at c0;clear h hc e g;subst hn
 go_enter Tryz.func180,Tryz.ntmps180
 go_wp2;go_ret;exact ⟨rfl,rfl⟩
theorem form_portno (A:Option Addr) (n c:Nat) (ws:List (List UInt8)) (w:World) (h:SSl w A n c ws) (hn:0<n) (n6:¬n=6) (n7:¬n=7) (e:wat ws 0=vBr):Calls Tryz.prog 180 #[.slice A n c] w fun e w'=>e=.returned (.string (str []))∧w=w':=by
 have hle:=h.le;obtain ⟨b,off,rfl,hb,hc⟩:=h.at_ (by omega);have c0:w.cell? ⟨b,off,none⟩=some (.string (str (wat ws 0))):=hc 0 (by omega)
 have j0:(0:Int)<(n:Int):=by omega
 rw [e] at c0
 have d6:((n:Int) == 6)=false:=by simp;omega
 have d7:((n:Int) == 7)=false:=by simp;omega
 unfold vBr at c0;clear h hc e
 go_enter Tryz.func180,Tryz.ntmps180
 go_wp2;go_ret;exact ⟨rfl,rfl⟩
theorem form_none (A:Option Addr) (n c:Nat) (ws:List (List UInt8)) (w:World) (h:SSl w A n c ws) (hn:0<n) (e:kdV (wat ws 0)=0):Calls Tryz.prog 180 #[.slice A n c] w fun e w'=>e=.returned (.string (str []))∧w=w':=by
 have hle:=h.le;obtain ⟨b,off,rfl,hb,hc⟩:=h.at_ (by omega);have c0:w.cell? ⟨b,off,none⟩=some (.string (str (wat ws 0))):=hc 0 (by omega)
 have j0:(0:Int)<(n:Int):=by omega
 have f:∀x:List UInt8,¬wat ws 0=x→(wat ws 0 == x)=false:=fun x h=>by simpa using h
 have n1:=f [100,101,118,105,99,101] (fun g=>by rw [g] at e;exact absurd e (by decide));have n2:=f [112,111,114,116] (fun g=>by rw [g] at e;exact absurd e (by decide));have n3:=f [108,105,110,107] (fun g=>by rw [g] at e;exact absurd e (by decide));have n4:=f [115,116,97,116,105,99] (fun g=>by rw [g] at e;exact absurd e (by decide));have n5:=f [118,116,101,112] (fun g=>by rw [g] at e;exact absurd e (by decide))
 have n6:=f [118,110,105] (fun g=>by rw [g] at e;exact absurd e (by decide));have n7:=f [102,108,111,111,100] (fun g=>by rw [g] at e;exact absurd e (by decide));have n8:=f [118,114,102] (fun g=>by rw [g] at e;exact absurd e (by decide));have n9:=f [105,114,98] (fun g=>by rw [g] at e;exact absurd e (by decide));generalize wat ws 0=x at *;clear h hc e f
 go_enter Tryz.func180,Tryz.ntmps180
 go_wp2;go_ret;exact ⟨rfl,rfl⟩
theorem form_nil (A:Option Addr) (c:Nat) (w:World):Calls Tryz.prog 180 #[.slice A 0 c] w fun e w'=>e=.returned (.string (str []))∧w=w':=by
 go_enter Tryz.func180,Tryz.ntmps180
 go_wp2;go_ret;exact ⟨rfl,rfl⟩
theorem vCc (A:Option Addr) (n c:Nat) (ws:List (List UInt8)) (w:World) (h:SSl w A n c ws):Calls Tryz.prog 180 #[.slice A n c] w fun e w'=>e=.returned (.string (str (fmV ws)))∧w=w':=by
 have hl:=h.len
 by_cases hn:n=0
 · subst hn
   obtain rfl:ws=[]:=List.eq_nil_of_length_eq_zero hl;exact form_nil A c w
 have hne:¬ws=[]:=fun g=>hn (by rw [←hl,g];rfl)
 have hp:0<n:=by omega
 by_cases e1:wat ws 0=[100,101,118,105,99,101]
 · rw [show fmV ws=[78,80,77] by unfold fmV;rw [if_neg hne,e1];rfl]
   exact form_device A n c ws w h hp e1
 by_cases e3:wat ws 0=[108,105,110,107]
 · rw [show fmV ws=[78,78,78,78] by unfold fmV;rw [if_neg hne,e3];rfl]
   exact form_link A n c ws w h hp e3
 by_cases e4:wat ws 0=[115,116,97,116,105,99]
 · rw [show fmV ws=[78,86,77,78] by unfold fmV;rw [if_neg hne,e4];rfl]
   exact form_static A n c ws w h hp e4
 by_cases e5:wat ws 0=[118,116,101,112]
 · rw [show fmV ws=[78,65] by unfold fmV;rw [if_neg hne,e5];rfl]
   exact form_vtep A n c ws w h hp e5
 by_cases e6:wat ws 0=[118,110,105]
 · rw [show fmV ws=[78,86,73] by unfold fmV;rw [if_neg hne,e6];rfl]
   exact form_vni A n c ws w h hp e6
 by_cases e7:wat ws 0=[102,108,111,111,100]
 · rw [show fmV ws=[78,73,76] by unfold fmV;rw [if_neg hne,e7];rfl]
   exact form_flood A n c ws w h hp e7
 by_cases e8:wat ws 0=[118,114,102]
 · rw [show fmV ws=[78,78,82,82] by unfold fmV;rw [if_neg hne,e8];rfl]
   exact form_vrf A n c ws w h hp e8
 by_cases e9:wat ws 0=[105,114,98]
 · rw [show fmV ws=[78,86,78,83] by unfold fmV;rw [if_neg hne,e9];rfl]
   exact form_irb A n c ws w h hp e9
 by_cases e2:wat ws 0=vBr
 · have k2:kdV (wat ws 0)=2:=by rw [e2];rfl
   have hf:fmV ws=(if ws.length=7∧¬wat ws 4=vAt then [78,78,67,75,87,84] else if ws.length=6∧¬wat ws 4=vBd then [78,78,67,75,86] else []):=by
    unfold fmV;rw [if_neg hne,k2]
    rfl
   rw [hf,hl]
   by_cases n7:n=7
   · by_cases g:wat ws 4=vAt
     · rw [if_neg (fun x=>x.2 g),if_neg (fun x=>by omega)]
       exact form_port7no A n c ws w h n7 e2 g
     · rw [if_pos ⟨n7,g⟩]
       exact form_port7 A n c ws w h n7 e2 g
   · rw [if_neg (fun x=>n7 x.1)]
     by_cases n6:n=6
     · by_cases g:wat ws 4=vBd
       · rw [if_neg (fun x=>x.2 g)]
         exact form_port6no A n c ws w h n6 e2 g
       · rw [if_pos ⟨n6,g⟩]
         exact form_port6 A n c ws w h n6 e2 g
     · rw [if_neg (fun x=>n6 x.1)]
       exact form_portno A n c ws w h hp n6 n7 e2
 have k0:kdV (wat ws 0)=0:=by
  unfold kdV;rw [if_neg e1,if_neg e2,if_neg e3,if_neg e4,if_neg e5,if_neg e6,if_neg e7,if_neg e8,if_neg e9]
 rw [show fmV ws=[] by unfold fmV;rw [if_neg hne,k0];rfl];exact form_none A n c ws w h hp k0
theorem mb_cons {L:LV} {n:Nat} (hl:L.tagged.length=n) (h:∀j,j<n→¬L.tagged.getD j 0=L.vlan):L.tagged.all (fun x=>!decide (x=L.vlan))=true:=by
 rw [List.all_eq_true];intro x hx;obtain ⟨i,hi,rfl⟩:=mem_getD hx;simpa using h i (by omega)
theorem mb_some {L:LV} {k:Nat} (hk:k<L.tagged.length) (h:L.tagged.getD k 0=L.vlan):mbB L=false:=by
 unfold mbB
 have:L.tagged.all (fun x=>!decide (x=L.vlan))=false:=by
  rw [List.all_eq_false];refine ⟨L.tagged[k],List.getElem_mem hk,?_⟩
  have:L.tagged.getD k 0=L.tagged[k]:=by simp [List.getD,List.getElem?_eq_getElem hk]
  rw [←this,h];simp
 rw [this]
 rfl
theorem members_any (L:LV) (s1 s2 s3 s4:SlV) (w:World) (h:ISl w .i64 s1.A s1.n s1.c L.tagged):
 Calls Tryz.prog 183 #[vBk L s1 s2 s3 s4] w fun e w'=>e=.returned (.bool (mbB L))∧Below w.heap.size w w':=by
 obtain ⟨A,n,c⟩:=s1;have hl:L.tagged.length=n:=h.len;have hle:n≤c:=h.le;have hcap:=h.cap;have H:=hid h;have MS:=hid (fun (k:Nat) (hk:k<n) g=>mb_some (L:=L) (k:=k) (by omega) g);have MC:=hid (fun h=>mb_cons (L:=L) (n:=n) hl h);have MV:=hid (show L.tagged.all (fun x=>!decide (x=L.vlan))=true→mbB L=(decide (0<L.vlan) || decide (0<L.tagged.length)) by intro g;unfold mbB;rw [g];rfl);have HL:=hid hl
 clear h hl;unfold vBk;generalize mbB L=R at *;generalize L.row=f0 at *;generalize L.kind=f1 at *;generalize L.dev=f2 at *;generalize L.port=f3 at *;generalize L.peer=f4 at *;generalize L.far=f5 at *;generalize L.name=f6 at *;generalize L.mac=f7 at *;generalize L.addr=f8 at *;generalize L.bits=f9 at *;generalize L.vlan=V at *;generalize L.num=f11 at *;generalize L.cost=f12 at *;generalize L.tagged=xs at *
 go_enter Tryz.func183,Tryz.ntmps183
 go_wp2
 have Y:=hid (show ∀W',W'=w.alloc (.cells #[.int .i64 f0,.int .i64 f1,.string (str f2),.string (str f3),.string (str f4),.string (str f5),.string (str f6),.int .u64 f7,.int .u32 f8,.int .i64 f9,.int .i64 V,.int .i64 f11,.int .i64 f12,.slice A n c,.slice s2.A s2.n s2.c,.slice s3.A s3.n s3.c,.slice s4.A s4.n s4.c] 37)→
  W'.cell? ⟨w.heap.size,10,none⟩=some (.int .i64 V)∧W'.cell? ⟨w.heap.size,13,none⟩=some (.slice A n c)∧w.heap.size<W'.heap.size∧Below w.heap.size w W' by
    rintro W' rfl;exact ⟨by simp,by simp,by simp,(Below.refl _ _).alloc (Nat.le_refl _) _⟩)
 generalize w.alloc (.cells #[.int .i64 f0,.int .i64 f1,.string (str f2),.string (str f3),.string (str f4),.string (str f5),.string (str f6),.int .u64 f7,.int .u32 f8,.int .i64 f9,.int .i64 V,.int .i64 f11,.int .i64 f12,.slice A n c,.slice s2.A s2.n s2.c,.slice s3.A s3.n s3.c,.slice s4.A s4.n s4.c] 37)=W0 at *;obtain ⟨y10,y13,yl,yb⟩:=Y.out _ rfl;have YB:=hid yb;have H0:=hid (H.out.below YB.out)
 clear yb
 go_loopw [3] (fun i wr=>∃k:Nat,k≤n∧i=.int .i64 (k:Int)∧(∀j,j<k→¬xs.getD j 0=V)∧Drew W0 wr) (fun i _=>n - (intOf i).toNat)
 case atStart=>exact ⟨0,by omega,rfl,fun j hj=>absurd hj (by omega),Drew.refl _⟩
 case round=>
  obtain ⟨k,hk,rfl,hno,m,rfl⟩:=hrel;have NO:=hid hno;clear hno
  by_cases hlt:k<n
  · obtain ⟨b,off,rfl,hb,hc⟩:=H0.out.2.2.2 (by omega)
    have c0:W0.cell? ⟨b,off+k,none⟩=some (.int .i64 (xs.getD k 0)):=hc k hlt;clear hc
    by_cases hx:xs.getD k 0=V
    · have E:=hid (MS.out k hlt hx)
      rw [hx] at c0;clear hx;go_wp2
      go_quiet (fail)
      go_wp2;go_ret;exact ⟨by rw [E.out];rfl,vAd (vAd YB.out m) nq⟩
    · have hx2:(xs.getD k 0 == V)=false:=by simpa using hx
      have N2:=hid (show ∀j,j<k+1→¬xs.getD j 0=V from fun j hj=>by
       rcases Nat.lt_or_ge j k with g|g
       · exact NO.out j g
       · obtain rfl:j=k:=by omega
         exact hx)
      generalize xs.getD k 0=x at c0 hx2;clear hx;go_wp2
      go_quiet (fail)
      go_wp2
      go_roundw
      case rel=>exact ⟨k+1,by omega,by go_num,N2.out,⟨m+nq,rfl⟩⟩
      case measure=>simp [intOf];omega
  · obtain rfl:k=n:=by omega
    have E:=hid (MV.out (MC.out NO.out));rw [HL.out] at E
    by_cases h1:0<V
    · have E2:=hid (show R=true by rw [E.out,decide_eq_true h1];rfl)
      clear E;go_wp2;go_ret;exact ⟨by rw [E2.out];rfl,vAd YB.out m⟩
    · by_cases h2:0<k
      · have E2:=hid (show R=true by rw [E.out,decide_eq_true h2,Bool.or_true])
        have d3:(0:Int)<(k:Int):=by omega
        clear E;go_wp2;go_ret;exact ⟨by rw [E2.out];rfl,vAd YB.out m⟩
      · have E2:=hid (show R=false by rw [E.out,decide_eq_false h2,decide_eq_false h1];rfl)
        have d3:¬(0:Int)<(k:Int):=by omega
        clear E;go_wp2;go_ret;exact ⟨by rw [E2.out];rfl,vAd YB.out m⟩
def Lt (c:UInt8):Prop:=c=78∨c=80∨c=67∨c=77∨c=86∨c=87∨c=84∨c=73∨c=65∨c=76∨c=82∨c=83∨c=75
theorem rword_any (c:UInt8) (hc:Lt c) (x:Int) (hx:x=(c.toNat:Int)) (s:List UInt8) (k:Int) (hk:0≤k) (q:Nat) (L:LV) (s1 s2 s3 s4:SlV) (w:World) (h:LBox w q L s1 s2 s3 s4) (hs:s.length≤1000000):
 Calls Tryz.prog 182 #[.int .u8 x,.string (str s),.int .i64 k,.pointer (some ⟨q,0,none⟩)] w (vGu w q (wdE c s) (wdL c s k.toNat L)):=by
 subst hx
 rcases hc with rfl|rfl|rfl|rfl|rfl|rfl|rfl|rfl|rfl|rfl|rfl|rfl|rfl
 · exact rword_N s k hk q L s1 s2 s3 s4 w h hs
 · exact rword_P s k hk q L s1 s2 s3 s4 w h hs
 · exact rword_C s k hk q L s1 s2 s3 s4 w h hs
 · exact rword_M s k hk q L s1 s2 s3 s4 w h hs
 · exact rword_V s k hk q L s1 s2 s3 s4 w h hs
 · exact rword_W s k hk q L s1 s2 s3 s4 w h hs
 · exact rword_T s k hk q L s1 s2 s3 s4 w h hs
 · exact rword_I s k hk q L s1 s2 s3 s4 w h hs
 · exact rword_A s k hk q L s1 s2 s3 s4 w h hs
 · exact rword_L s k hk q L s1 s2 s3 s4 w h hs
 · exact rword_R s k hk q L s1 s2 s3 s4 w h hs
 · exact rword_S s k hk q L s1 s2 s3 s4 w h hs
 · exact rword_K s k hk q L s1 s2 s3 s4 w h hs
end Go.Proofs.YtkpbbfehglihlaaGreatDoor
