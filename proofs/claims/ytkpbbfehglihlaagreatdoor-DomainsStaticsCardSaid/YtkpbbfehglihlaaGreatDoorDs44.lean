import Derived.Test.YtkpbbfehglihlaaGreatDoorDs20
import Derived.Test.YtkpbbfehglihlaaGreatDoorDs43
import Derived.Test.YtkpbbfehglihlaaGreatDoorDs40
import Derived.Test.YtkpbbfehglihlaaGreatDoorDs31
import Derived.Test.YtkpbbfehglihlaaGreatDoorDs42
import Derived.Test.YtkpbbfehglihlaaGreatDoorDs41
import Derived.Test.YtkpbbfehglihlaaGreatDoorDs15
import Derived.Test.YtkpbbfehglihlaaGreatDoorDs33
import Derived.Test.YtkpbbfehglihlaaGreatDoorDs04
import Derived.Test.YtkpbbfehglihlaaGreatDoorDs18
import Derived.Test.YtkpbbfehglihlaaGreatDoorDs32
import Derived.Deep.CutBlock
import Derived.Deep.DeepCutAuto
set_option maxRecDepth 100000
set_option maxHeartbeats 40000000
namespace Go.Proofs.YtkpbbfehglihlaaGreatDoor
open Go.Lib (hid)
open Go.RowKit
theorem ex_read {W:World} {q:Nat} {T0 T1 T2:TypeId} (h0:W.heap[q]?=some (.cells #[.int .i64 0,.int .i64 0,.string ⟨#[97]⟩,.int .u64 0,.int .u32 0] T0)) (h1:W.heap[q+1]?=some (.cells #[.int .i64 0,.int .i64 0,.int .i64 10,.int .i64 0,.int .i64 (-1),.string ⟨#[112]⟩,.slice none 0 0] T1)) (h2:W.heap[q+1+1]?=some (.cells #[.int .i64 0,.int .i64 10,.int .i64 0,.int .i64 (-1),.int .i64 0,.slice none 0 0] T2)) (hs:q+1+1<W.heap.size):NRead W (vAs W) exN (exS q):=
 ⟨rsl_one devR W _ q (devC ⟨0,0,[97],0,0⟩) _ (show q<W.heap.size by omega) (by omega) rfl (vEi (T:=T0) h0),rsl_one portR W _ (q+1) (portC ⟨0,0,10,0,-1,[112],[]⟩ Sl3.nil) _ (show q+1<W.heap.size by omega) (by omega) ⟨Sl3.nil,rfl,RSl.nil⟩ (vEi (T:=T1) h1),RSl.nil,rsl_one domR W _ (q+1+1) (domC ⟨0,10,0,-1,0,[]⟩ Sl3.nil) _ (show q+1+1<W.heap.size by omega) (by omega) ⟨Sl3.nil,rfl,RSl.nil⟩ (vEi (T:=T2) h2),RSl.nil,RSl.nil,RSl.nil,RSl.nil⟩
def xL4:LV:=⟨0,4,[97],[112],[],[],[],2,0,0,10,0,0,[],[],[],[]⟩
theorem nm_a4:nmB [97]=true:=(vGi _).2 ⟨by decide,by decide,by unfold Lc;decide,fun j hj=>by
 obtain rfl:j=0:=by have h:j<1:=hj;omega
 exact .inl (by unfold Lc;decide)⟩
theorem nm_p4:nmB [112]=true:=(vGi _).2 ⟨by decide,by decide,by unfold Lc;decide,fun j hj=>by
 obtain rfl:j=0:=by have h:j<1:=hj;omega
 exact .inl (by unfold Lc;decide)⟩
theorem ex4_rg:rgB xL4=true:=rgB_read 0 xL4 (.inr (.inr (.inr (.inl ⟨[97],10,2,[112],rfl,nm_a4,⟨by decide,by decide⟩,⟨by decide,by decide,by decide⟩,nm_p4⟩))))
theorem ex4_f:vFe exN xL4 4=true:=vHa.2 ⟨rfl,ex4_rg,ex_ok⟩
def exN4:NV:=vCu exN 0 0 0 2
theorem ex4_p:doN exN xL4=exN4∧doE exN xL4=0:=do_0 ex4_f (by decide)
theorem ex4_ok:NetOk exN4:=withStat_ok 0 2 ex_ok (by decide) (by decide) (by decide) (by decide) (by decide)
theorem ex4_f2:vFe exN4 xL4 4=true:=vHa.2 ⟨rfl,ex4_rg,ex4_ok⟩
theorem ex4_p2:doN exN4 xL4=NV.zero∧doE exN4 xL4=30:=do_e ex4_f2 (by decide) (by decide)
theorem ex4_sz:NvSz exN4:=ws_sz 0 0 0 2 ex_sz (by decide)
theorem ex4_nm:NmSz exN:=by
 refine ⟨fun k hk=>?_,fun k hk=>?_,fun k hk=>absurd hk (by simp [exN])⟩
 · obtain rfl:k=0:=by simp [exN] at hk;omega
   decide
 · obtain rfl:k=0:=by simp [exN] at hk;omega
   decide
theorem ex4_nm4:NmSz exN4:=⟨ex4_nm.1,ex4_nm.2,ex4_nm.3⟩
theorem nil_read4 (w:World):LRead w xL4 SlV.nil SlV.nil SlV.nil SlV.nil:=⟨ISl.nil,ISl.nil,ISl.nil,ISl.nil⟩
theorem ex4_put (N:NV) (S:NSl3) (w:World) (h:NRead w (vAs w) N S) (hz:NvSz N) (hm:NmSz N):Calls Tryz.prog 8 #[vAx S,.agg #[.int .i64 0,.int .i64 4,.string ⟨#[97]⟩,.string ⟨#[112]⟩,.string ⟨#[]⟩,.string ⟨#[]⟩,.string ⟨#[]⟩,.int .u64 2,.int .u32 0,.int .i64 0,.int .i64 10,.int .i64 0,.int .i64 0,.slice none 0 0,.slice none 0 0,.slice none 0 0,.slice none 0 0]] w (GotPut (doN N xL4) (doE N xL4) w):=
 cstatic_any N S xL4 SlV.nil SlV.nil SlV.nil SlV.nil w h (nil_read4 w) hz hm ⟨by decide,by decide⟩ ⟨by decide,by decide⟩
theorem works18_any (w:World) (hl:LdP w):Calls Tryz.prog 7 #[] w fun e w'=>e=.returned (.bool true)∧Below w.heap.size w w':=by
 have HL:=hid hl;clear hl
 go_enter Tryz.func7,Tryz.ntmps7
 go_upto_region 2 with fail
 have e1:(w.alloc (.cells #[.int .i64 0,.int .i64 0,.string ⟨#[97]⟩,.int .u64 0,.int .u32 0] 61)).heap.size=w.heap.size+1:=by simp
 have e2:((w.alloc (.cells #[.int .i64 0,.int .i64 0,.string ⟨#[97]⟩,.int .u64 0,.int .u32 0] 61)).alloc (.cells #[.int .i64 0,.int .i64 0,.int .i64 10,.int .i64 0,.int .i64 (-1),.string ⟨#[112]⟩,.slice none 0 0] 56)).heap.size=w.heap.size+1+1:=by simp
 have e3:(((w.alloc (.cells #[.int .i64 0,.int .i64 0,.string ⟨#[97]⟩,.int .u64 0,.int .u32 0] 61)).alloc (.cells #[.int .i64 0,.int .i64 0,.int .i64 10,.int .i64 0,.int .i64 (-1),.string ⟨#[112]⟩,.slice none 0 0] 56)).alloc (.cells #[.int .i64 0,.int .i64 10,.int .i64 0,.int .i64 (-1),.int .i64 0,.slice none 0 0] 63)).heap.size=w.heap.size+1+1+1:=by simp
 have g0:=heap_alloc_new w (.cells #[.int .i64 0,.int .i64 0,.string ⟨#[97]⟩,.int .u64 0,.int .u32 0] 61);have g1:=heap_alloc_new (w.alloc (.cells #[.int .i64 0,.int .i64 0,.string ⟨#[97]⟩,.int .u64 0,.int .u32 0] 61)) (.cells #[.int .i64 0,.int .i64 0,.int .i64 10,.int .i64 0,.int .i64 (-1),.string ⟨#[112]⟩,.slice none 0 0] 56);rw [e1] at g1;have g2:=heap_alloc_new ((w.alloc (.cells #[.int .i64 0,.int .i64 0,.string ⟨#[97]⟩,.int .u64 0,.int .u32 0] 61)).alloc (.cells #[.int .i64 0,.int .i64 0,.int .i64 10,.int .i64 0,.int .i64 (-1),.string ⟨#[112]⟩,.slice none 0 0] 56)) (.cells #[.int .i64 0,.int .i64 10,.int .i64 0,.int .i64 (-1),.int .i64 0,.slice none 0 0] 63)
 rw [e2] at g2;have g3:(((w.alloc (.cells #[.int .i64 0,.int .i64 0,.string ⟨#[97]⟩,.int .u64 0,.int .u32 0] 61)).alloc (.cells #[.int .i64 0,.int .i64 0,.int .i64 10,.int .i64 0,.int .i64 (-1),.string ⟨#[112]⟩,.slice none 0 0] 56)).alloc (.cells #[.int .i64 0,.int .i64 10,.int .i64 0,.int .i64 (-1),.int .i64 0,.slice none 0 0] 63)).heap[w.heap.size]?=_:=(Below.heap_alloc _ _ _ (by simp;omega)).trans ((Below.heap_alloc _ _ _ (by simp)).trans g0)
 have g4:(((w.alloc (.cells #[.int .i64 0,.int .i64 0,.string ⟨#[97]⟩,.int .u64 0,.int .u32 0] 61)).alloc (.cells #[.int .i64 0,.int .i64 0,.int .i64 10,.int .i64 0,.int .i64 (-1),.string ⟨#[112]⟩,.slice none 0 0] 56)).alloc (.cells #[.int .i64 0,.int .i64 10,.int .i64 0,.int .i64 (-1),.int .i64 0,.slice none 0 0] 63)).heap[w.heap.size+1]?=_:=(Below.heap_alloc _ _ _ (by simp)).trans g1;obtain ⟨w4,hw4⟩:∃w4,(((w.alloc (.cells #[.int .i64 0,.int .i64 0,.string ⟨#[97]⟩,.int .u64 0,.int .u32 0] 61)).alloc (.cells #[.int .i64 0,.int .i64 0,.int .i64 10,.int .i64 0,.int .i64 (-1),.string ⟨#[112]⟩,.slice none 0 0] 56)).alloc (.cells #[.int .i64 0,.int .i64 10,.int .i64 0,.int .i64 (-1),.int .i64 0,.slice none 0 0] 63)).alloc (.cells #[.slice (some ⟨w.heap.size,0,none⟩) 1 1,.slice (some ⟨w.heap.size+1,0,none⟩) 1 1,.slice none 0 0,.slice (some ⟨w.heap.size+1+1,0,none⟩) 1 1,.slice none 0 0,.slice none 0 0,.slice none 0 0,.slice none 0 0] 31)=w4:=⟨_,rfl⟩
 have K4:Below (((w.alloc (.cells #[.int .i64 0,.int .i64 0,.string ⟨#[97]⟩,.int .u64 0,.int .u32 0] 61)).alloc (.cells #[.int .i64 0,.int .i64 0,.int .i64 10,.int .i64 0,.int .i64 (-1),.string ⟨#[112]⟩,.slice none 0 0] 56)).alloc (.cells #[.int .i64 0,.int .i64 10,.int .i64 0,.int .i64 (-1),.int .i64 0,.slice none 0 0] 63)).heap.size (((w.alloc (.cells #[.int .i64 0,.int .i64 0,.string ⟨#[97]⟩,.int .u64 0,.int .u32 0] 61)).alloc (.cells #[.int .i64 0,.int .i64 0,.int .i64 10,.int .i64 0,.int .i64 (-1),.string ⟨#[112]⟩,.slice none 0 0] 56)).alloc (.cells #[.int .i64 0,.int .i64 10,.int .i64 0,.int .i64 (-1),.int .i64 0,.slice none 0 0] 63)) w4:=by rw [←hw4];exact (Below.refl _ _).alloc (Nat.le_refl _) _
 have K3:Below w.heap.size w (((w.alloc (.cells #[.int .i64 0,.int .i64 0,.string ⟨#[97]⟩,.int .u64 0,.int .u32 0] 61)).alloc (.cells #[.int .i64 0,.int .i64 0,.int .i64 10,.int .i64 0,.int .i64 (-1),.string ⟨#[112]⟩,.slice none 0 0] 56)).alloc (.cells #[.int .i64 0,.int .i64 10,.int .i64 0,.int .i64 (-1),.int .i64 0,.slice none 0 0] 63)):=(vAi w (.cells #[.int .i64 0,.int .i64 0,.string ⟨#[97]⟩,.int .u64 0,.int .u32 0] 61) (.cells #[.int .i64 0,.int .i64 0,.int .i64 10,.int .i64 0,.int .i64 (-1),.string ⟨#[112]⟩,.slice none 0 0] 56)).alloc (by simp;omega) _
 have s4:w4.heap.size=w.heap.size+1+1+1+1:=by rw [←hw4];simp
 have R4:NRead w4 (vAs w4) exN (exS w.heap.size):=ex_read ((K4.block _ (by rw [e3];omega)).trans g3) ((K4.block _ (by rw [e3];omega)).trans g4) ((K4.block _ (by rw [e3];omega)).trans g2) (by omega);have g5:=heap_alloc_new (((w.alloc (.cells #[.int .i64 0,.int .i64 0,.string ⟨#[97]⟩,.int .u64 0,.int .u32 0] 61)).alloc (.cells #[.int .i64 0,.int .i64 0,.int .i64 10,.int .i64 0,.int .i64 (-1),.string ⟨#[112]⟩,.slice none 0 0] 56)).alloc (.cells #[.int .i64 0,.int .i64 10,.int .i64 0,.int .i64 (-1),.int .i64 0,.slice none 0 0] 63)) (.cells #[.slice (some ⟨w.heap.size,0,none⟩) 1 1,.slice (some ⟨w.heap.size+1,0,none⟩) 1 1,.slice none 0 0,.slice (some ⟨w.heap.size+1+1,0,none⟩) 1 1,.slice none 0 0,.slice none 0 0,.slice none 0 0,.slice none 0 0] 31)
 rw [e3,hw4] at g5;have rg:=vEi (vs:=[.slice (some ⟨w.heap.size,0,none⟩) 1 1,.slice (some ⟨w.heap.size+1,0,none⟩) 1 1,.slice none 0 0,.slice (some ⟨w.heap.size+1+1,0,none⟩) 1 1,.slice none 0 0,.slice none 0 0,.slice none 0 0,.slice none 0 0]) g5;have c4:w4.cell? ⟨w.heap.size+1+1+1,0,none⟩=some (.slice (some ⟨w.heap.size,0,none⟩) 1 1)∧w4.cell? ⟨w.heap.size+1+1+1,1,none⟩=some (.slice (some ⟨w.heap.size+1,0,none⟩) 1 1)∧w4.cell? ⟨w.heap.size+1+1+1,2,none⟩=some (.slice none 0 0)∧w4.cell? ⟨w.heap.size+1+1+1,3,none⟩=some (.slice (some ⟨w.heap.size+1+1,0,none⟩) 1 1)∧w4.cell? ⟨w.heap.size+1+1+1,4,none⟩=some (.slice none 0 0)∧w4.cell? ⟨w.heap.size+1+1+1,5,none⟩=some (.slice none 0 0)∧w4.cell? ⟨w.heap.size+1+1+1,6,none⟩=some (.slice none 0 0)∧w4.cell? ⟨w.heap.size+1+1+1,7,none⟩=some (.slice none 0 0):=⟨by simpa using rg 0 _ rfl,by simpa using rg 1 _ rfl,by simpa using rg 2 _ rfl,by simpa using rg 3 _ rfl,by simpa using rg 4 _ rfl,by simpa using rg 5 _ rfl,by simpa using rg 6 _ rfl,by simpa using rg 7 _ rfl⟩
 have B4:Below w.heap.size w w4:=K3.trans (K4.mono K3.size)
 have KN:=hid (show ∀wx,Below w4.heap.size w4 wx→(wx.cell? ⟨w.heap.size+1+1+1,0,none⟩=some (.slice (some ⟨w.heap.size,0,none⟩) 1 1)∧wx.cell? ⟨w.heap.size+1+1+1,1,none⟩=some (.slice (some ⟨w.heap.size+1,0,none⟩) 1 1)∧wx.cell? ⟨w.heap.size+1+1+1,2,none⟩=some (.slice none 0 0)∧wx.cell? ⟨w.heap.size+1+1+1,3,none⟩=some (.slice (some ⟨w.heap.size+1+1,0,none⟩) 1 1)∧wx.cell? ⟨w.heap.size+1+1+1,4,none⟩=some (.slice none 0 0)∧wx.cell? ⟨w.heap.size+1+1+1,5,none⟩=some (.slice none 0 0)∧wx.cell? ⟨w.heap.size+1+1+1,6,none⟩=some (.slice none 0 0)∧wx.cell? ⟨w.heap.size+1+1+1,7,none⟩=some (.slice none 0 0))∧NRead wx (vAs wx) exN (exS w.heap.size)∧LdP wx∧Below w.heap.size w wx from fun wx hx=>by
  obtain ⟨c0,c1,c2,c3,c4,c5,c6,c7⟩:=c4
  exact ⟨⟨(hx.cell (p:=⟨_,0,none⟩) (show w.heap.size+1+1+1<w4.heap.size by omega)).trans c0,(hx.cell (p:=⟨_,1,none⟩) (show w.heap.size+1+1+1<w4.heap.size by omega)).trans c1,(hx.cell (p:=⟨_,2,none⟩) (show w.heap.size+1+1+1<w4.heap.size by omega)).trans c2,(hx.cell (p:=⟨_,3,none⟩) (show w.heap.size+1+1+1<w4.heap.size by omega)).trans c3,(hx.cell (p:=⟨_,4,none⟩) (show w.heap.size+1+1+1<w4.heap.size by omega)).trans c4,(hx.cell (p:=⟨_,5,none⟩) (show w.heap.size+1+1+1<w4.heap.size by omega)).trans c5,(hx.cell (p:=⟨_,6,none⟩) (show w.heap.size+1+1+1<w4.heap.size by omega)).trans c6,(hx.cell (p:=⟨_,7,none⟩) (show w.heap.size+1+1+1<w4.heap.size by omega)).trans c7⟩,R4.up hx,HL.out.below (B4.trans (hx.mono B4.size)),B4.trans (hx.mono B4.size)⟩)
 have ql:w.heap.size+1+1+1<w4.heap.size:=by omega
 rw [hw4];clear e1 e2 e3 g0 g1 g2 g3 g4 g5 rg hw4 K4 K3 s4 R4 c4 B4
 have P1:=fun (wx:World) (hx:Below w4.heap.size w4 wx)=>ex4_put exN _ wx (KN.out wx hx).2.1 ex_sz ex4_nm
 rw [ex4_p.1,ex4_p.2] at P1
 have P2:=fun (U:NSl3) (wx:World) (h:NRead wx (vAs wx) exN4 U)=>ex4_put exN4 U wx h ex4_sz ex4_nm4
 rw [ex4_p2.1,ex4_p2.2] at P2
 have XK:=fun (U:NSl3) (wx:World) (h:NRead wx (vAs wx) exN4 U)=>xlook_any exN4 U 0 2 wx h ex4_sz
 rw [lkX_ok ex4_ok,show lkF exN4 0 2=0 by decide] at XK
 have XL:=fun (wx:World) (hx:Below w4.heap.size w4 wx)=>xlook_any exN _ 0 2 wx (KN.out wx hx).2.1 ex_sz
 rw [lkX_ok ex_ok,show lkF exN 0 2= -1 by decide] at XL
 have XT:=fun (wx:World) (hx:Below w4.heap.size w4 wx)=>xtext18_any exN _ 0 wx (KN.out wx hx).2.1 ex_sz ex4_nm (KN.out wx hx).2.2.1
 rw [tdX_ok ex_ok,show tdF exN 0=[97,47,49,48] by decide +kernel,show str [97,47,49,48]=⟨#[97,47,49,48]⟩ from rfl] at XT
 have XH:=fun (wx:World) (hx:Below w4.heap.size w4 wx)=>xhosts_any exN _ 0 wx (KN.out wx hx).2.1 ex_sz
 rw [hsX_ok ex_ok,show hsL exN 0=[0] by decide] at XH;unfold GotPut at P1 P2;unfold vAx exS Sl3.nil at P1 XL XT XH;unfold vAx at P2 XK;dsimp only at P1 XL XT XH;replace P1:=hid P1;replace P2:=hid P2;replace XK:=hid XK;replace XL:=hid XL;replace XT:=hid XT;replace XH:=hid XH;obtain ⟨f0,f1,f2,f3,f4,f5,f6,f7⟩:=(KN.out _ (Below.refl _ _)).1
 go_upto_region 3 with (go_at_call 8;(refine (P1.out _ (Below.refl _ _)).mono ?_);rintro e w5 ⟨U,rfl,hr,hb⟩;have R5:=hid hr;have Y5:=hid hb;clear hr hb)
 clear f0 f1 f2 f3 f4 f5 f6 f7;obtain ⟨w6,hw6⟩:∃w6,w5.alloc (.cells #[.slice U.dv.A U.dv.n U.dv.c,.slice U.pt.A U.pt.n U.pt.c,.slice U.lk.A U.lk.n U.lk.c,.slice U.dm.A U.dm.n U.dm.c,.slice U.st.A U.st.n U.st.c,.slice U.fl.A U.fl.n U.fl.c,.slice U.vr.A U.vr.n U.vr.c,.slice U.ir.A U.ir.n U.ir.c] 31)=w6:=⟨_,rfl⟩
 have A6:Below w5.heap.size w5 w6:=by rw [←hw6];exact vAc _ _
 have NB:=hid (show NBox w6 w5.heap.size U by rw [←hw6];exact NBox.new _ _ _);have R6:=hid (R5.out.up A6);have Y6:=hid (vAa Y5.out A6);rw [hw6];clear hw6 A6
 have KM:=hid (show ∀wx,Below w6.heap.size w6 wx→(wx.cell? ⟨w5.heap.size,0,none⟩=some (.slice U.dv.A U.dv.n U.dv.c)∧wx.cell? ⟨w5.heap.size,1,none⟩=some (.slice U.pt.A U.pt.n U.pt.c)∧wx.cell? ⟨w5.heap.size,2,none⟩=some (.slice U.lk.A U.lk.n U.lk.c)∧wx.cell? ⟨w5.heap.size,3,none⟩=some (.slice U.dm.A U.dm.n U.dm.c)∧wx.cell? ⟨w5.heap.size,4,none⟩=some (.slice U.st.A U.st.n U.st.c)∧wx.cell? ⟨w5.heap.size,5,none⟩=some (.slice U.fl.A U.fl.n U.fl.c)∧wx.cell? ⟨w5.heap.size,6,none⟩=some (.slice U.vr.A U.vr.n U.vr.c)∧wx.cell? ⟨w5.heap.size,7,none⟩=some (.slice U.ir.A U.ir.n U.ir.c))∧w5.heap.size<wx.heap.size∧NRead wx (vAs wx) exN4 U∧Below w4.heap.size w4 wx from fun wx hx=>by
  have nb:=NB.out.below hx
  exact ⟨⟨nb.c0,nb.c1,nb.c2,nb.c3,nb.c4,nb.c5,nb.c6,nb.c7⟩,nb.lt,R6.out.up hx,vAa Y6.out hx⟩)
 have D6:=hid (Below.refl w6.heap.size w6);obtain ⟨⟨g0,g1,g2,g3,g4,g5,g6,g7⟩,lm,rm,_⟩:=KM.out _ D6.out;obtain ⟨f0,f1,f2,f3,f4,f5,f6,f7⟩:=(KN.out _ Y6.out).1
 go_wp2_with (first
  |(go_at_call 8;(with_reducible refine (P2.out U _ rm).mono ?_);rintro e w7 ⟨V,rfl,hr,hb⟩;have D7:=hid (vAa D6.out hb);clear rm hb;obtain ⟨⟨g0,g1,g2,g3,g4,g5,g6,g7⟩,lm,rm,hy⟩:=KM.out _ D7.out;have Y7:=hid hy;clear hy;obtain ⟨f0,f1,f2,f3,f4,f5,f6,f7⟩:=(KN.out _ Y7.out).1;clear hr)
  |(go_at_call 12;(with_reducible refine (XK.out U _ (rm.up (vAc _ _))).mono ?_);rintro e w8 ⟨rfl,hb⟩;have D8:=hid (vAa (vAa D7.out (vAc _ _)) hb);clear rm hb;obtain ⟨⟨g0,g1,g2,g3,g4,g5,g6,g7⟩,lm,rm,hy⟩:=KM.out _ D8.out;have Y8:=hid hy;clear hy;obtain ⟨f0,f1,f2,f3,f4,f5,f6,f7⟩:=(KN.out _ Y8.out).1)
  |(go_at_call 12;(with_reducible refine (XL.out _ Y8.out).mono ?_);rintro e w9 ⟨rfl,hb⟩;have D9:=hid (vAa D8.out hb);clear rm hb;obtain ⟨⟨g0,g1,g2,g3,g4,g5,g6,g7⟩,lm,rm,hy⟩:=KM.out _ D9.out;have Y9:=hid hy;clear hy;obtain ⟨f0,f1,f2,f3,f4,f5,f6,f7⟩:=(KN.out _ Y9.out).1)
  |(go_at_call 14;(with_reducible refine (XT.out _ Y9.out).mono ?_);rintro e w10 ⟨rfl,hb⟩;have D10:=hid (vAa D9.out hb);clear rm hb;obtain ⟨⟨g0,g1,g2,g3,g4,g5,g6,g7⟩,lm,rm,hy⟩:=KM.out _ D10.out;have Y10:=hid hy;clear hy;obtain ⟨f0,f1,f2,f3,f4,f5,f6,f7⟩:=(KN.out _ Y10.out).1)
  |(go_at_call 13;(with_reducible refine (XH.out _ Y10.out).mono ?_);rintro e w11 ⟨A,n,c,rfl,hs,hb⟩;have D11:=hid (vAa D10.out hb);clear rm hb;obtain ⟨⟨g0,g1,g2,g3,g4,g5,g6,g7⟩,lm,rm,hy⟩:=KM.out _ D11.out;have Y11:=hid hy;clear hy;obtain ⟨f0,f1,f2,f3,f4,f5,f6,f7⟩:=(KN.out _ Y11.out).1;have hn:=hs.len;obtain rfl:n=1:=by {rw [←hn];rfl};have hle:=hs.le;have hcap:=hs.cap;clear hs hn))
 go_ret;exact ⟨by first|rfl|simp,(KN.out _ (KM.out _ D11.out).2.2.2).2.2.2⟩
theorem rwords_k4 (L:LV) (s1 s2 s3 s4:SlV) (w:World) (h:LRead w L s1 s2 s3 s4) (hw:LvW L) (hk:L.kind=4):Calls Tryz.prog 165 #[vBk L s1 s2 s3 s4] w (GotWs (wrW L) w):=by
 have WR:=hid (show wrW L=[vDx,L.dev,wnS L.vlan,wmS L.mac,L.port] by unfold wrW;rw [if_neg (by rw [hk];decide),if_neg (by rw [hk];decide),if_neg (by rw [hk];decide),if_pos hk]);have H:=hid h;have HW:=hid hw;have P0:=hid (vFv w L s1 s2 s3 s4 37);have CV:=hid (fun w'=>vBp L.vlan hw.vlan.1 hw.vlan.2 w');have CN:=hid (fun w'=>vBp L.num hw.num.1 hw.num.2 w')
 have CC:=hid (fun w'=>vBp L.cost hw.cost.1 hw.cost.2 w');have CM:=hid (fun w'=>Mac.refText_any L.mac w' hw.mac.1 hw.mac.2);have HK:=hid hk;clear h hw hk;unfold vBk
 go_enter Tryz.func165,Tryz.ntmps165
 go_upto_region 1 with fail
 obtain ⟨w1,hw1⟩:∃w1,w.alloc (.cells #[.int .i64 L.row,.int .i64 L.kind,.string (str L.dev),.string (str L.port),.string (str L.peer),.string (str L.far),.string (str L.name),.int .u64 L.mac,.int .u32 L.addr,.int .i64 L.bits,.int .i64 L.vlan,.int .i64 L.num,.int .i64 L.cost,.slice s1.A s1.n s1.c,.slice s2.A s2.n s2.c,.slice s3.A s3.n s3.c,.slice s4.A s4.n s4.c] 37)=w1:=⟨_,rfl⟩;have B1:=hid (show Below w.heap.size w w1 by rw [←hw1];exact (Below.refl _ _).alloc (Nat.le_refl _) _)
 rw [hw1] at P0 ⊢;have Q0:=hid (show w.heap.size<w1.heap.size by rw [←hw1];simp);clear hw1
 have KP:=hid (show ∀wx,Below w1.heap.size w1 wx→(wx.cell? ⟨w.heap.size,1,none⟩=some (.int .i64 4)∧wx.cell? ⟨w.heap.size,2,none⟩=some (.string (str L.dev))∧wx.cell? ⟨w.heap.size,3,none⟩=some (.string (str L.port))∧wx.cell? ⟨w.heap.size,7,none⟩=some (.int .u64 L.mac)∧wx.cell? ⟨w.heap.size,10,none⟩=some (.int .i64 L.vlan)∧wx.cell? ⟨w.heap.size,11,none⟩=some (.int .i64 L.num))∧LRead wx L s1 s2 s3 s4∧Below w.heap.size w wx from fun wx hx=>by
  have bx:=P0.out.below (by omega) hx
  exact ⟨⟨(bx.cell 1 (by omega)).trans (by first|rfl|(show some (Value.int .i64 L.kind)=_;rw [HK.out])),(bx.cell 2 (by omega)).trans (by first|rfl|(show some (Value.int .i64 L.kind)=_;rw [HK.out])),(bx.cell 3 (by omega)).trans (by first|rfl|(show some (Value.int .i64 L.kind)=_;rw [HK.out])),(bx.cell 7 (by omega)).trans (by first|rfl|(show some (Value.int .i64 L.kind)=_;rw [HK.out])),(bx.cell 10 (by omega)).trans (by first|rfl|(show some (Value.int .i64 L.kind)=_;rw [HK.out])),(bx.cell 11 (by omega)).trans (by first|rfl|(show some (Value.int .i64 L.kind)=_;rw [HK.out]))⟩,⟨H.out.1.below (B1.out.trans (hx.mono B1.out.size)),H.out.2.1.below (B1.out.trans (hx.mono B1.out.size)),H.out.2.2.1.below (B1.out.trans (hx.mono B1.out.size)),H.out.2.2.2.below (B1.out.trans (hx.mono B1.out.size))⟩,B1.out.trans (hx.mono B1.out.size)⟩)
 obtain ⟨⟨c1,c2,c3,c7,c10,c11⟩,_,_⟩:=KP.out w1 (Below.refl _ _)
 go_wp2_with (first
  |(go_at_call 49;(with_reducible refine (CV.out _).mono ?_);rintro e w2 ⟨rfl,b_⟩;have Y2:=hid (b_);obtain ⟨⟨c1,c2,c3,c7,c10,c11⟩,_,_⟩:=KP.out _ Y2.out;clear b_)
  |(go_at_call 49;(with_reducible refine (CN.out _).mono ?_);rintro e w3 ⟨rfl,b_⟩;have Y3:=hid (vAa Y2.out b_);obtain ⟨⟨c1,c2,c3,c7,c10,c11⟩,_,_⟩:=KP.out _ Y3.out;clear b_)
  |(go_at_call 184;(with_reducible refine (CM.out _).mono ?_);rintro e w4 ⟨rfl,b_⟩;have Y4:=hid (vAa Y3.out b_);obtain ⟨⟨c1,c2,c3,c7,c10,c11⟩,_,_⟩:=KP.out _ Y4.out;clear b_))
 go_ret;have B4:=(KP.out _ Y4.out).2.2;rw [WR.out];exact ⟨_,_,_,rfl,row_lit w4 [vDx,L.dev,wnS L.vlan,wmS L.mac,L.port] _ (by simp),B4.alloc B4.size _⟩
theorem wr_len4 {L:LV} (hw:LvW L) (hs:LvSm L) (hk:L.kind=4):∀p∈wrW L,p.length≤1000000:=by
 have t:=hs.txt;have hv:=wn_len hw.vlan;have hm:=wm_len L.mac;intro p hp
 have e:wrW L=[vDx,L.dev,wnS L.vlan,wmS L.mac,L.port]:=by unfold wrW;rw [if_neg (by rw [hk];decide),if_neg (by rw [hk];decide),if_neg (by rw [hk];decide),if_pos hk]
 rw [e] at hp;simp only [List.mem_cons,List.not_mem_nil,or_false] at hp
 rcases hp with rfl|rfl|rfl|rfl|rfl
 · decide
 all_goals omega
theorem fm_stat {ws:List (List UInt8)} (p:wat ws 0=vDx) (h0:ws≠[]):fmV ws=[78,86,77,78]:=by
 have k:kdV (wat ws 0)=4:=by rw [p];decide +kernel
 unfold fmV;rw [if_neg h0,if_neg (by rw [k];decide),if_neg (by rw [k];decide),if_pos k]
theorem back4 (row:Int) (L:LV) (h:Kd4 row L):rdE (wrW L) row=0∧rdL (wrW L) row=L:=by
 obtain ⟨s,v,m,p,rfl,hs,hv,hm,hp⟩:=h;have e:wrW {LV.new row 4 with dev:=s,vlan:=v,mac:=m,port:=p}=[vDx,s,wnS v,wmS m,p]:=rfl;rw [e]
 have hr:vCf [78,86,77,78] ([vDx,s,wnS v,wmS m,p].drop 1) 0 (LV.new row 4)=(0,{LV.new row 4 with dev:=s,vlan:=v,mac:=m,port:=p}):=by
  show vCf [78,86,77,78] [s,wnS v,wmS m,p] 0 (LV.new row 4)=_
  have key:∀w2 w3:List UInt8,wdE 86 w2=0→wdE 77 w3=0→vCf [78,86,77,78] [s,w2,w3,p] 0 (LV.new row 4)=(0,{LV.new row 4 with dev:=s,vlan:=nV w2 1 4094,mac:=mcV w3,port:=p}):=fun w2 w3 a b=>by
   rw [vGb (wdE_N hs),vGb a,vGb b,vGb (wdE_N hp)]
   rfl
  rw [key _ _ (wE_num (c:=86) (lo:=1) (hi:=4094) rfl hv.1 hv.2 (by omega)) (wE_M hm),(wn_back hv.1 hv.2 (by omega)).2,(wm_back hm.1 hm.2.1).2]
 obtain ⟨h1,h2⟩:=rd_of (ws:=[vDx,s,wnS v,wmS m,p]) (row:=row) (fm_stat rfl (by simp)) (by simp) rfl (show kdV (wat [vDx,s,wnS v,wmS m,p] 0)=4 from (by decide +kernel:kdV vDx=4)) hr
 have e0:rdE [vDx,s,wnS v,wmS m,p] row=0:=by rw [h1];rfl
 exact ⟨e0,by rw [h2,if_pos e0]⟩
theorem rg_kd4 {L:LV} (h:rgB L=true) (k:L.kind=4) (m0:0≤L.mac):Kd4 L.row L:=by
 have hp:pts L.kind true=[(0,0),(4,7),(7,9),(0,1)]:=by rw [k];rfl
 have h1:=(rgB_yes h).2;rw [hp] at h1;obtain ⟨a1,h1⟩:=rg_of h1;obtain ⟨a2,h1⟩:=rg_of h1;obtain ⟨a3,h1⟩:=rg_of h1;obtain ⟨a4,h1⟩:=rg_of h1;obtain ⟨f0,f1,f2,f3,f4,f5,f6,f7,f8,f9,f10,f11,f12,f13,f14,f15,f16⟩:=L;dsimp only at k m0;subst k
 have h2:({(⟨f0,4,f2,f3,f4,f5,f6,f7,f8,f9,f10,f11,f12,f13,f14,f15,f16⟩:LV) with dev:=[],vlan:=0,mac:=0,port:=[]}:LV)=LV.new f0 4:=by injection h1
 simp only [LV.new,LV.mk.injEq] at h2;obtain ⟨_,_,_,_,rfl,rfl,rfl,_,rfl,rfl,_,rfl,rfl,rfl,rfl,rfl,rfl⟩:=h2;exact ⟨f2,f10,f7,f3,rfl,may0_of a1,may_num_of (w:=4) (lo:=1) (hi:=4094) rfl rfl a2,may7_of a3 m0,may0_of a4⟩
theorem rr_eq4 (L:LV) (h:L.kind=4) (m0:0≤L.mac) (r0: -9223372036854775808≤L.row) (r1:L.row≤9223372036854775807):rrB L=rgB L:=by
 rw [Bool.eq_iff_iff]
 constructor
 · intro g
   unfold rrB at g;rw [Bool.and_eq_true] at g;have g2:=g.2;rw [Bool.and_eq_true,decide_eq_true_eq,vFi] at g2;have k:=rd_cases _ _ g2.1;rw [←g2.2] at k;exact rgB_read _ _ k
 · intro g
   have k:=rg_kd4 g h m0;have kb:RdK L.row L:=.inr (.inr (.inr (.inl k)));have k2:=back4 _ _ k;have ok:=(rd_ok kb r0 r1).lst;unfold rrB;rw [decide_eq_true ok.1,decide_eq_true ok.2.1,decide_eq_true ok.2.2.1,decide_eq_true ok.2.2.2,decide_eq_true k2.1,k2.2,vFs]
   rfl
theorem rright_k4 (L:LV) (s1 s2 s3 s4:SlV) (w:World) (h:LRead w L s1 s2 s3 s4) (hw:LvW L) (hs:LvSm L) (hk:L.kind=4):Calls Tryz.prog 107 #[vBk L s1 s2 s3 s4] w fun e w'=>e=.returned (.bool (rgB L))∧Below w.heap.size w w':=by
 have:=rrright_gen L s1 s2 s3 s4 w h (fun w' hr=>rwords_k4 L s1 s2 s3 s4 w' hr hw hk) (wr_len4 hw hs hk)
 rw [rr_eq4 L hk hw.mac.1 hw.row.1 hw.row.2] at this;exact this
end Go.Proofs.YtkpbbfehglihlaaGreatDoor
set_option maxRecDepth 100000
set_option maxHeartbeats 40000000
namespace Go.Proofs.YtkpbbfehglihlaaGreatDoor
open Go.Lib (hid)
open Go.RowKit
theorem rlook_any (N:NV) (S:NSl3) (d m:Int) (w:World) (h:NRead w (vAs w) N S):Calls Tryz.prog 16 #[vAx S,.int .i64 d,.int .u64 m] w fun e w'=>e=.returned (.int .i64 (lkF N d m))∧Below w.heap.size w w':=by
 have H:=hid h.st;have hle:=h.st.le;have hcap:=h.st.cap;have HL:=hid h.st.len;have E:=hid (show lkF N d m=stK (N.statics.drop 0) d m from rfl);generalize lkF N d m=V at *;have NB:=hid (NBox.new w S 31);clear h;unfold vAx
 go_enter Tryz.func16,Tryz.ntmps16
 go_wp2;obtain ⟨w1,hw1⟩:∃w1,w.alloc (.cells (nA S) 31)=w1:=⟨_,rfl⟩;have B1:=hid (show Below w.heap.size w w1 by rw [←hw1];exact (Below.refl _ _).alloc (Nat.le_refl _) _);rw [hw1] at NB ⊢;clear hw1;have c3:=NB.out.c4
 go_loopw [7] (fun i wr=>∃k:Nat,i=.int .i64 k∧k≤S.st.n∧wr=w1∧V=stK (N.statics.drop k) d m) (fun i _=>match i with| .int _ y=>(S.st.n - y).toNat|_=>0)
 case atStart=>exact ⟨0,rfl,by omega,rfl,E.out⟩
 case round=>
  obtain ⟨k,rfl,hk,hwr,hv⟩:=hrel;subst hwr;have HV:=hid hv;clear hv
  by_cases hlt:k<S.st.n
  · obtain ⟨b0,o0,vs,e0,_,hb0,hvs,r0⟩:=vAh H.out k hlt StatV.zero
    have hvs:vs=vDz (N.statics.getD k StatV.zero):=hvs;subst hvs
    have hk2:k<N.statics.length:=by rw [HL.out];exact hlt
    have AT:=hid (stK_at hk2 d m);generalize N.statics.getD k StatV.zero=D at *;have R1:=vAb r0 (B1.out.block b0 hb0);have d1:=R1 1 _ rfl;have d2:=R1 2 _ rfl;have d3:=R1 3 _ rfl;rw [show o0+k * statR.n=o0+k * 4 from rfl] at d1 d2 d3
    have lt2:(k:Int)<(S.st.n:Int):=by omega
    rw [e0] at c3 ⊢;clear r0 R1 hk2
    by_cases ha:D.dom=d
    · have x1:(D.dom == d)=true:=by simpa using ha
      by_cases hb:D.mac=m
      · have x2:(D.mac == m)=true:=by simpa using hb
        have EV:=hid (show V=D.port by rw [HV.out,AT.out,if_pos ⟨ha,hb⟩]);clear ha hb;go_wp2;go_ret;exact ⟨by rw [EV.out];rfl,B1.out⟩
      have x2:(D.mac == m)=false:=by simpa using hb
      have EV:=hid (show V=stK (N.statics.drop (k+1)) d m by rw [HV.out,AT.out,if_neg (fun e=>hb e.2)]);clear ha hb;go_wp2
      go_roundw
      case rel=>exact ⟨k+1,by simp,by omega,(by first|rfl|trivial),EV.out⟩
      case measure=>simp only [];omega
    have x1:(D.dom == d)=false:=by simpa using ha
    have EV:=hid (show V=stK (N.statics.drop (k+1)) d m by rw [HV.out,AT.out,if_neg (fun e=>ha e.1)]);clear ha;go_wp2
    go_roundw
    case rel=>exact ⟨k+1,by simp,by omega,(by first|rfl|trivial),EV.out⟩
    case measure=>simp only [];omega
  · have lt2:¬(k:Int)<(S.st.n:Int):=by omega
    have EV:=hid (show V= -1 by rw [HV.out,List.drop_of_length_le (by rw [HL.out];omega)];rfl);go_wp2;go_ret;exact ⟨by rw [EV.out];rfl,B1.out⟩
theorem vDd (tmps:Array Value) (W:World) (S:NSl3) (q:Nat) (E:Int) (h2:tmps[4]?.getD undef=.pointer (some ⟨q,0,none⟩)) (h5:tmps[5]?.getD undef=.int .i64 E) (hb:TBx W q 31 (vCk S)):
 (results Tryz.f9 tmps).run Tryz.prog W=.ok (.tuple #[vAx S,.int .i64 E]) W:=by
 have t0:=hb.cell 0 _ rfl;have t1:=hb.cell 1 _ rfl;have t2:=hb.cell 2 _ rfl;have t3:=hb.cell 3 _ rfl;have t4:=hb.cell 4 _ rfl;have t5:=hb.cell 5 _ rfl;have t6:=hb.cell 6 _ rfl;have t7:=hb.cell 7 _ rfl;clear hb;unfold vAx;simp [results,Tryz.results9,go_sem,h2,h5,t0,t1,t2,t3,t4,t5,t6,t7]
theorem rstatic_any (N:NV) (S:NSl3) (L:LV) (s1 s2 s3 s4:SlV) (w:World) (h:NRead w (vAs w) N S) (hl:LRead w L s1 s2 s3 s4) (hz:NvSz N) (hw:LvW L) (hs:LvSm L):Calls Tryz.prog 9 #[vAx S,vBk L s1 s2 s3 s4] w (GotPut (doN N L) (doE N L) w):=by
 have UP:=hid (fun (w':World) (hb:Below w.heap.size w w')=>h.up hb);have UL:=hid (fun (w':World) (hb:Below w.heap.size w w')=>vBg hl hb)
 have FT:=fun (w':World) (hb:Below w.heap.size w w')=>fits_gen N S L s1 s2 s3 s4 4 w' (h.up hb) (vBg hl hb) (fun w' hl e=>rright_k4 L s1 s2 s3 s4 w' hl hw hs e)
 have CP:=fun (w':World) (hb:Below w.heap.size w w')=>rcopy_any (vAs w) N S w' (h.keep (F':=vAs w) (fun b g=>hb.block b g) (fun _ g=>g)) (fun b g=>Nat.lt_of_lt_of_le g hb.size) hz
 obtain ⟨v,hv⟩:∃v,vFe N L 4=v:=⟨_,rfl⟩;rw [hv] at FT;have HV:=hid hv;unfold vAx at FT CP;unfold GotCopy vAx at CP;replace FT:=hid FT;replace CP:=hid CP;have HP:=hid h.pt;have NLEN:=hid h.pt.len;have KLEN:=hid h.st.len;have hle:=h.pt.le;have hcap:=h.pt.cap;have gle:=h.st.le;have gcap:=h.st.cap;clear hv hz hw hs;clear h hl;unfold vAx;rw [vGq]
 go_enter Tryz.func9,Tryz.ntmps9
 go_upto_region 1 with fail
 generalize hw1:World.alloc _ _=w1;obtain ⟨B1,NB,LB,ql1,RB⟩:=pre_three (S:=S) (L:=L) (s1:=s1) (s2:=s2) (s3:=s3) (s4:=s4) hw1;clear hw1;replace B1:=hid B1;replace NB:=hid NB;replace LB:=hid LB;replace RB:=hid RB
 have KN:=hid (show ∀wx,Below w1.heap.size w1 wx→NF wx w.heap.size S∧(wx.cell? ⟨w.heap.size+1,0,none⟩=some (.int .i64 L.row)∧wx.cell? ⟨w.heap.size+1,2,none⟩=some (.string (str L.dev))∧wx.cell? ⟨w.heap.size+1,3,none⟩=some (.string (str L.port))∧wx.cell? ⟨w.heap.size+1,7,none⟩=some (.int .u64 L.mac)∧wx.cell? ⟨w.heap.size+1,10,none⟩=some (.int .i64 L.vlan))∧BoxF wx (w.heap.size+1) 17 (lc L s1 s2 s3 s4)∧NRead wx (vAs wx) N S∧LRead wx L s1 s2 s3 s4∧Below w.heap.size w wx from fun wx hx=>by
  have nb:=NB.out.below hx;have bx:=LB.out.below (by omega) hx;have b0:=B1.out.trans (hx.mono B1.out.size)
  exact ⟨⟨nb.c0,nb.c1,nb.c2,nb.c3,nb.c4,nb.c5,nb.c6,nb.c7⟩,⟨bx.cell 0 (by omega),bx.cell 2 (by omega),bx.cell 3 (by omega),bx.cell 7 (by omega),bx.cell 10 (by omega)⟩,bx,UP.out _ b0,UL.out _ b0,b0⟩)
 have BS:=hid (Below.refl w1.heap.size w1);obtain ⟨⟨f0,f1,f2,f3,f4,f5,f6,f7⟩,⟨g0,g2,g3,g7,g10⟩,lb_,_⟩:=KN.out w1 (Below.refl _ _)
 cases v
 · have EV:=hid (do_2 HV.out)
   go_wp2_with (first
    |((with_reducible refine vAk ?hg (.tmp 3) ?ho (w.heap.size+1) ?hx L s1 s2 s3 s4 lb_ ?_);(case hg=>rfl);(case ho=>rfl);(case hx=>rfl))
    |(go_at_call 31;(with_reducible refine (FT.out _ B1.out).mono ?_);rintro e w2 ⟨rfl,b_⟩;have Y2:=hid b_;have rb_:=RB.out.below Y2.out;have rl_:=rb_.lt;obtain ⟨r0,z0,r1,z1,r2,z2,r3,z3,r4,z4,r5,z5,r6,z6,r7,z7⟩:=rb_.zero8;clear b_ rb_))
   refine bodyPost_ret (vDd _ (st8 w2 (w.heap.size+2) NSl3.nil) NSl3.nil (w.heap.size+2) 2 rfl rfl ((RB.out.below Y2.out).st8 NSl3.nil)) rfl ?_;rw [EV.out.1,EV.out.2];exact ⟨NSl3.nil,rfl,vCa _,Below.st8 (B1.out.trans (Y2.out.mono B1.out.size)) (by omega) NSl3.nil⟩
 have hn:=(vHa.1 HV.out).2.2
 have DV:=fun (w':World) (hb:Below w.heap.size w w')=>rdevice_any N S L.dev w' (UP.out w' hb)
 have PT:=fun (w':World) (hb:Below w.heap.size w w')=>rport_any N S (dvF N L.dev) L.port w' (UP.out w' hb)
 have AT:=fun (w':World) (hb:Below w.heap.size w w')=>rat_any N S (dvF N L.dev) L.vlan w' (UP.out w' hb)
 have LK:=fun (w':World) (hb:Below w.heap.size w w')=>rlook_any N S (atF N (dvF N L.dev) L.vlan) L.mac w' (UP.out w' hb)
 have LE:=hid (fun (e:Int)=>do_e (N:=N) (L:=L) HV.out (e:=e));have L0:=hid (do_0 (N:=N) (L:=L) HV.out);have PA:=nd_place (N:=N) (dev:=dvF N L.dev) (s:=L.port);have AP:=at_place N (dvF N L.dev) L.vlan;have KP:=lk_place hn (atF N (dvF N L.dev) L.vlan) L.mac;have E0:=hid (fun (g:dvF N L.dev<0)=>show ndF N L.dev L.port= -1 by unfold ndF;rw [dv_neg g];exact pt_nodev hn L.port);rw [show ptF N (dvF N L.dev) L.port=ndF N L.dev L.port from rfl] at PT PA
 obtain ⟨k,hk⟩:∃k,lkF N (atF N (dvF N L.dev) L.vlan) L.mac=k:=⟨_,rfl⟩;rw [hk] at LK KP;have HK:=hid hk;clear hk;have L64:=hid hn.zst;clear hn;generalize ndF N L.dev L.port=a at *;generalize atF N (dvF N L.dev) L.vlan=d at *;generalize dvF N L.dev=D at *;unfold vAx at DV PT AT LK;replace DV:=hid DV;replace PT:=hid PT;replace AT:=hid AT;replace LK:=hid LK;replace PA:=hid PA
 replace AP:=hid AP;replace KP:=hid KP
 go_upto_region 5 with (first
  |((with_reducible refine vAk ?hg (.tmp 3) ?ho (w.heap.size+1) ?hx L s1 s2 s3 s4 lb_ ?_);(case hg=>rfl);(case ho=>rfl);(case hx=>rfl))
  |(go_at_call 31;(with_reducible refine (FT.out _ B1.out).mono ?_);rintro e w2 ⟨rfl,b_⟩;have Y2:=hid b_;have X2:=hid (vAa B1.out b_);obtain ⟨⟨f0,f1,f2,f3,f4,f5,f6,f7⟩,⟨g0,g2,g3,g7,g10⟩,lb_,_⟩:=KN.out _ Y2.out;clear b_)
  |(go_at_call 32;(with_reducible refine (DV.out _ X2.out).mono ?_);rintro e w3 ⟨rfl,b_⟩;have Y3:=hid (vAa Y2.out b_);have X3:=hid (vAa X2.out b_);obtain ⟨⟨f0,f1,f2,f3,f4,f5,f6,f7⟩,⟨g0,g2,g3,g7,g10⟩,lb_,_⟩:=KN.out _ Y3.out;clear b_)
  |(go_at_call 33;(with_reducible refine (PT.out _ X3.out).mono ?_);rintro e w4 ⟨rfl,b_⟩;have Y4:=hid (vAa Y3.out b_);have X4:=hid (vAa X3.out b_);obtain ⟨⟨f0,f1,f2,f3,f4,f5,f6,f7⟩,⟨g0,g2,g3,g7,g10⟩,lb_,_⟩:=KN.out _ Y4.out;clear b_))
 by_cases a0:a= -1
 · have t2:a<0:=by omega
   have EV:=hid (LE.out 31 (by unfold doR;rw [if_pos a0]) (by decide));have rb_:=RB.out.below Y4.out;have rl_:=rb_.lt;obtain ⟨r0,z0,r1,z1,r2,z2,r3,z3,r4,z4,r5,z5,r6,z6,r7,z7⟩:=rb_.zero8;clear a0 rb_
   by_cases t1:D<0
   · go_wp2
     refine bodyPost_ret (vDd _ (st8 w4 (w.heap.size+2) NSl3.nil) NSl3.nil (w.heap.size+2) 31 rfl rfl ((RB.out.below Y4.out).st8 NSl3.nil)) rfl ?_;rw [EV.out.1,EV.out.2];exact ⟨NSl3.nil,rfl,vCa _,Below.st8 (B1.out.trans (Y4.out.mono B1.out.size)) (by omega) NSl3.nil⟩
   · go_wp2
     refine bodyPost_ret (vDd _ (st8 w4 (w.heap.size+2) NSl3.nil) NSl3.nil (w.heap.size+2) 31 rfl rfl ((RB.out.below Y4.out).st8 NSl3.nil)) rfl ?_;rw [EV.out.1,EV.out.2];exact ⟨NSl3.nil,rfl,vCa _,Below.st8 (B1.out.trans (Y4.out.mono B1.out.size)) (by omega) NSl3.nil⟩
 have t2:¬a<0:=by rcases PA.out with e|⟨j,_,e,_⟩<;>omega
 have t1:¬D<0:=fun g=>a0 (E0.out g)
 obtain ⟨x,hx,ea,h1_,h2_⟩:=PA.out.resolve_left a0;clear h1_ h2_;subst ea;have DR:=hid (show doR N d (x:Int) L.vlan L.mac=if d= -1∨vIk (N.ports.getD x PortV.zero) L.vlan=false then 32 else if lkF N d L.mac≠-1 then 30 else if 64≤N.statics.length then 3 else 0 by unfold doR;rw [if_neg a0];rfl)
 have hxl:x<S.pt.n:=by have:=NLEN.out;omega
 go_upto_region 8 with (go_at_call 34;(with_reducible refine (AT.out _ X4.out).mono ?_);rintro e w5 ⟨rfl,b_⟩;have Y5:=hid (vAa Y4.out b_);have X5:=hid (vAa X4.out b_);obtain ⟨⟨f0,f1,f2,f3,f4,f5,f6,f7⟩,⟨g0,g2,g3,g7,g10⟩,lb_,_⟩:=KN.out _ Y5.out;clear b_)
 obtain ⟨bp,op,vp,ep,_,hbp,⟨s,rfl,lp⟩,rp⟩:=vAh HP.out x hxl PortV.zero;have EP:=hid ep
 have lx:(x:Int)<(S.pt.n:Int):=by omega
 generalize N.ports.getD x PortV.zero=P at *;obtain ⟨mb,hmb⟩:∃mb,vIk P L.vlan=mb:=⟨_,rfl⟩;have MB:=hid (fun (w':World) (hb:Below w.heap.size w w')=>show Calls Tryz.prog 35 #[.agg #[.int .i64 P.row,.int .i64 P.dev,.int .i64 P.native,.int .i64 P.cost,.int .i64 P.link,.string (str P.name),.slice s.A s.n s.c],.int .i64 L.vlan] w' (fun e w2=>e=.returned (.bool mb)∧Below w'.heap.size w' w2) from hmb▸rmember_any P s L.vlan w' (vAs w') (fun _ h=>h) (vAn lp hb))
 rw [hmb] at DR
 have KR:=hid (show ∀wx,Below w1.heap.size w1 wx→wx.cell? ⟨w.heap.size,1,none⟩=some (.slice (some ⟨bp,op,none⟩) S.pt.n S.pt.c)∧wx.cell? ⟨w.heap.size+1,10,none⟩=some (.int .i64 L.vlan)∧(wx.cell? ⟨bp,op+x * 7,none⟩=some (.int .i64 P.row)∧wx.cell? ⟨bp,op+x * 7+1,none⟩=some (.int .i64 P.dev)∧wx.cell? ⟨bp,op+x * 7+2,none⟩=some (.int .i64 P.native)∧wx.cell? ⟨bp,op+x * 7+3,none⟩=some (.int .i64 P.cost)∧wx.cell? ⟨bp,op+x * 7+4,none⟩=some (.int .i64 P.link)∧wx.cell? ⟨bp,op+x * 7+5,none⟩=some (.string (str P.name))∧wx.cell? ⟨bp,op+x * 7+6,none⟩=some (.slice s.A s.n s.c))∧Below w.heap.size w wx from fun wx hx=>by
  obtain ⟨⟨_,f1,_⟩,⟨_,_,_,_,g10⟩,_,_,_,hb⟩:=KN.out wx hx;rw [EP.out] at f1;have r:=vAb rp (hb.block bp hbp)
  exact ⟨f1,g10,⟨r 0 _ rfl,r 1 _ rfl,r 2 _ rfl,r 3 _ rfl,r 4 _ rfl,r 5 _ rfl,r 6 _ rfl⟩,hb⟩)
 clear rp lp ep hmb f0 f1 f2 f3 f4 f5 f6 f7 g0 g2 g3 g7 g10 lb_ t1 t2 a0
 by_cases d0:d= -1
 · have t1:d<0:=by omega
   have EV:=hid (LE.out 32 (by rw [DR.out,if_pos (.inl d0)]) (by decide));clear d0;refine vAe (fun wx=>Below w1.heap.size w1 wx) (by kernel_rfl) (by kernel_rfl) (vAd Y5.out 1) ?_
   repeat
    first
     |(refine Seq.pass rfl ?_;simp only [Act.put,List.setIfInBounds_toArray,List.set_cons_zero,List.set_cons_succ])
     |(refine Seq.run ?_ rfl (fun wx hx=>?_) ?_
       rotate_left
       · obtain ⟨f1,g10,⟨p0,p1,p2,p3,p4,p5,p6⟩,hBx⟩:=KR.out wx hx
         go_simp
         first
          |(refine StepRun.val ?_;exact hx)
       simp only [Act.put,List.setIfInBounds_toArray,List.set_cons_zero,List.set_cons_succ])
   refine Seq.last (fun w6 h6=>?_);have rb_:=RB.out.below h6;have rl_:=rb_.lt;obtain ⟨r0,z0,r1,z1,r2,z2,r3,z3,r4,z4,r5,z5,r6,z6,r7,z7⟩:=rb_.zero8;clear rb_;go_wp2;refine bodyPost_ret (vDd _ (st8 w6 (w.heap.size+2) NSl3.nil) NSl3.nil (w.heap.size+2) 32 rfl rfl ((RB.out.below h6).st8 NSl3.nil)) rfl ?_;rw [EV.out.1,EV.out.2];exact ⟨NSl3.nil,rfl,vCa _,Below.st8 (B1.out.trans (h6.mono B1.out.size)) (by omega) NSl3.nil⟩
 have t1:¬d<0:=by rcases AP.out with e|⟨j,_,e,_⟩<;>omega
 obtain ⟨y,hy,ed,_,_⟩:=AP.out.resolve_left d0;subst ed
 cases mb
 · have EV:=hid (LE.out 32 (by rw [DR.out,if_pos (.inr rfl)]) (by decide))
   clear d0;refine vAe (fun wx=>Below w1.heap.size w1 wx) (by kernel_rfl) (by kernel_rfl) (vAd Y5.out 1) ?_
   repeat
    first
     |(refine Seq.pass rfl ?_;simp only [Act.put,List.setIfInBounds_toArray,List.set_cons_zero,List.set_cons_succ])
     |(refine Seq.run ?_ rfl (fun wx hx=>?_) ?_
       rotate_left
       · obtain ⟨f1,g10,⟨p0,p1,p2,p3,p4,p5,p6⟩,hBx⟩:=KR.out wx hx
         go_simp
         first
          |(refine StepRun.val ?_;exact hx)
          |(refine StepRun.call (v:=.bool false) ?_;(with_reducible refine Calls.mono (MB.out _ hBx) ?_);rintro e w' ⟨rfl,hb⟩;exact ⟨rfl,vAa hx hb⟩)
       simp only [Act.put,List.setIfInBounds_toArray,List.set_cons_zero,List.set_cons_succ])
   refine Seq.last (fun w6 h6=>?_);have rb_:=RB.out.below h6;have rl_:=rb_.lt;obtain ⟨r0,z0,r1,z1,r2,z2,r3,z3,r4,z4,r5,z5,r6,z6,r7,z7⟩:=rb_.zero8;clear rb_;go_wp2;refine bodyPost_ret (vDd _ (st8 w6 (w.heap.size+2) NSl3.nil) NSl3.nil (w.heap.size+2) 32 rfl rfl ((RB.out.below h6).st8 NSl3.nil)) rfl ?_;rw [EV.out.1,EV.out.2];exact ⟨NSl3.nil,rfl,vCa _,Below.st8 (B1.out.trans (h6.mono B1.out.size)) (by omega) NSl3.nil⟩
 replace DR:=hid (show doR N (y:Int) (x:Int) L.vlan L.mac=if k≠-1 then 30 else if 64≤N.statics.length then 3 else 0 by rw [DR.out,if_neg (fun e=>e.elim d0 (fun g=>by cases g)),HK.out]);clear d0;refine vAe (fun wx=>Below w1.heap.size w1 wx) (by kernel_rfl) (by kernel_rfl) (vAd Y5.out 1) ?_
 repeat
  first
   |(refine Seq.pass rfl ?_;simp only [Act.put,List.setIfInBounds_toArray,List.set_cons_zero,List.set_cons_succ])
   |(refine Seq.run ?_ rfl (fun wx hx=>?_) ?_
     rotate_left
     · obtain ⟨f1,g10,⟨p0,p1,p2,p3,p4,p5,p6⟩,hBx⟩:=KR.out wx hx
       go_simp
       first
        |(refine StepRun.val ?_;exact hx)
        |(refine StepRun.call (v:=.bool true) ?_;(with_reducible refine Calls.mono (MB.out _ hBx) ?_);rintro e w' ⟨rfl,hb⟩;exact ⟨rfl,vAa hx hb⟩)
     simp only [Act.put,List.setIfInBounds_toArray,List.set_cons_zero,List.set_cons_succ])
 refine Seq.last (fun w6 h6=>?_);have Y6:=hid h6;clear h6;rename World=>w6;obtain ⟨⟨f0,f1,f2,f3,f4,f5,f6,f7⟩,⟨g0,g2,g3,g7,g10⟩,lb_,_,_,hx6⟩:=KN.out _ Y6.out;have X6:=hid hx6;clear hx6
 by_cases k0:k= -1
 rotate_left
 · have t3:k≥0:=by rcases KP.out with e|⟨j,_,e⟩<;>omega
   have EV:=hid (LE.out 30 (by rw [DR.out,if_pos k0]) (by decide));clear k0
   go_upto_region 11 with (go_at_call 16;(with_reducible refine (LK.out _ X6.out).mono ?_);rintro e w7 ⟨rfl,b_⟩;have Y7:=hid (vAa Y6.out b_);have X7:=hid (vAa X6.out b_);obtain ⟨⟨f0,f1,f2,f3,f4,f5,f6,f7⟩,⟨g0,g2,g3,g7,g10⟩,lb_,_⟩:=KN.out _ Y7.out;clear b_)
   clear f0 f1 f2 f3 f4 f5 f6 f7 g0 g2 g3 g7 g10 lb_;have rb_:=RB.out.below Y7.out;have rl_:=rb_.lt;obtain ⟨r0,z0,r1,z1,r2,z2,r3,z3,r4,z4,r5,z5,r6,z6,r7,z7⟩:=rb_.zero8;clear rb_;go_wp2;refine bodyPost_ret (vDd _ (st8 w7 (w.heap.size+2) NSl3.nil) NSl3.nil (w.heap.size+2) 30 rfl rfl ((RB.out.below Y7.out).st8 NSl3.nil)) rfl ?_;rw [EV.out.1,EV.out.2];exact ⟨NSl3.nil,rfl,vCa _,Below.st8 (B1.out.trans (Y7.out.mono B1.out.size)) (by omega) NSl3.nil⟩
 have t3:¬k≥0:=by omega
 replace DR:=hid (show doR N (y:Int) (x:Int) L.vlan L.mac=if 64≤N.statics.length then 3 else 0 by rw [DR.out,if_neg (fun e=>e k0)]);clear k0
 go_upto_region 12 with (go_at_call 16;(with_reducible refine (LK.out _ X6.out).mono ?_);rintro e w7 ⟨rfl,b_⟩;have Y7:=hid (vAa Y6.out b_);have X7:=hid (vAa X6.out b_);obtain ⟨⟨f0,f1,f2,f3,f4,f5,f6,f7⟩,⟨g0,g2,g3,g7,g10⟩,lb_,_⟩:=KN.out _ Y7.out;clear b_)
 by_cases c4:64≤S.st.n
 · have y4:(S.st.n:Int)≥64:=by omega
   have EV:=hid (LE.out 3 (by rw [DR.out,if_pos (by rw [KLEN.out];exact c4)]) (by decide));have rb_:=RB.out.below Y7.out;have rl_:=rb_.lt;obtain ⟨r0,z0,r1,z1,r2,z2,r3,z3,r4,z4,r5,z5,r6,z6,r7,z7⟩:=rb_.zero8;clear c4 rb_;go_wp2;refine bodyPost_ret (vDd _ (st8 w7 (w.heap.size+2) NSl3.nil) NSl3.nil (w.heap.size+2) 3 rfl rfl ((RB.out.below Y7.out).st8 NSl3.nil)) rfl ?_;rw [EV.out.1,EV.out.2];exact ⟨NSl3.nil,rfl,vCa _,Below.st8 (B1.out.trans (Y7.out.mono B1.out.size)) (by omega) NSl3.nil⟩
 have y4:¬(S.st.n:Int)≥64:=by omega
 have EV:=hid (L0.out (by rw [DR.out,if_neg (by rw [KLEN.out];exact c4)]));have KS:=hid (show N.statics.length≤63 by have:=KLEN.out;omega);clear c4 PA AP KP LE L0 DR
 go_upto_region 15 with (go_at_call 24;(with_reducible refine (CP.out _ X7.out).mono ?_);rintro e w8 ⟨U,rfl,hown,hb_⟩;have OW:=hid hown;have B8:=hid hb_;have Y8:=hid (vAa Y7.out hb_);clear hown hb_)
 obtain ⟨w9,hw9⟩:∃w9,w8.alloc (.cells (nA U) 31)=w9:=⟨_,rfl⟩
 have A9:Below w8.heap.size w8 w9:=by rw [←hw9];exact vAc _ _
 have O9:=hid (OW.out.up A9);have T9:=hid (show TBx w9 w8.heap.size 31 (vCk U) by rw [←hw9];exact TBx.new w8 _ _);have Y9:=hid (vAa Y8.out A9);have FF:=hid (show ∀b,vAs w b→b<w7.heap.size from fun b g=>Nat.lt_of_lt_of_le g X7.out.size);have S78:=hid (show w7.heap.size≤w8.heap.size from B8.out.size);have S89:=hid (show w8.heap.size≤w9.heap.size from A9.size);have Q7:=hid (show w.heap.size+2<w7.heap.size from (RB.out.below Y7.out).lt)
 rw [hw9];clear hw9 A9 f0 f1 f2 f3 f4 f5 f6 f7 g0 g2 g3 g7 g10 OW;obtain ⟨_,⟨g0,_,_,g7,_⟩,_⟩:=KN.out _ Y9.out;have ub:=T9.out.lt;have u4:=T9.out.cell 4 (.slice U.st.A U.st.n U.st.c) rfl
 have wl_:w.heap.size+1<w9.heap.size:=by have:=Q7.out;have:=S78.out;have:=S89.out;omega
 go_upto_region 16 with (at_builtin;(refine wpList_ri1 statR rfl (.tmp 65) (.tmp 73) 26 Tryz.underlying26 (Desc.of (by kernel_rfl)) (by decide) rfl U.st (O9.out.st.up (vAc w9 (.cells (vDz ⟨L.row,(y:Int),(x:Int),L.mac⟩).toArray 67))) vDb ?hF w9.heap.size (vDz ⟨L.row,(y:Int),(x:Int),L.mac⟩) ⟨L.row,(y:Int),(x:Int),L.mac⟩ ?hu ?hy ?hn ?hB rfl rfl ?_);(case hF=>exact FF.out);(case hu=>exact (TBx.new w9 (vDz ⟨L.row,(y:Int),(x:Int),L.mac⟩).toArray 67).range);(case hy=>rfl);(case hn=>have:=KS.out;omega);(case hB=>have:=S78.out;have:=S89.out;simp;omega);intro u' w10 hr hc hb;have R10:=hid hr;have C10:=hid ((ChgT.of_below (B:=w7.heap.size) (T:=67) (vAc w9 (.cells (vDz ⟨L.row,(y:Int),(x:Int),L.mac⟩).toArray 67))).trans hc);have B10:=hid (show Below w7.heap.size w9 w10 from ((Below.refl _ _).alloc (by have:=S78.out;have:=S89.out;omega) (.cells (vDz ⟨L.row,(y:Int),(x:Int),L.mac⟩).toArray 67)).trans hb);have T10:=hid (T9.out.chg C10.out (by decide));have v4:=T10.out.cell 4 (.slice U.st.A U.st.n U.st.c) rfl;have y4_:=T10.out.live 4;clear hr hc hb)
 obtain ⟨w11,hw11⟩:∃w11,w10.setCell ⟨w8.heap.size,4,none⟩ (.slice u'.A u'.n u'.c)=w11:=⟨_,rfl⟩;obtain ⟨U',hU'⟩:∃U':NSl3,({U with st:=u'}:NSl3)=U':=⟨_,rfl⟩;have T11:=hid (show TBx w11 w8.heap.size 31 (vCk U') by rw [←hw11,←hU'];exact T10.out.set 4 _);have C11:=hid (show ChgT w7.heap.size 31 w10 w11 by rw [←hw11];exact T10.out.chgT S78.out 4 _);have B11:=hid (show Below w7.heap.size w9 w11 by rw [←hw11];exact B10.out.setCell S78.out _)
 have F6:=hid (show ∀b,vAs w b→b<w7.heap.size from FF.out);have O11:=hid (show NOwn w11 w7.heap.size (vAs w) (vCu N L.row y x L.mac) U' by rw [←hU'];exact (O9.out.setSt C10.out F6.out R10.out).box C11.out vEf F6.out);have Y11:=hid (show Below w1.heap.size w1 w11 from Y9.out.trans (B11.out.mono (by have:=Y7.out.size;have:=S78.out;omega)));rw [hw11];clear hw11 hU' v4 y4_ u4 ub g0 g7
 have rb_:=RB.out.below Y11.out;have rl_:=rb_.lt;have tl_:=T11.out.lt;have t0:=T11.out.cell 0 (.slice U'.dv.A U'.dv.n U'.dv.c) rfl;have r0:=rb_.cell 0 (.slice none 0 0) rfl;have z0:=rb_.live 0;have t1:=T11.out.cell 1 (.slice U'.pt.A U'.pt.n U'.pt.c) rfl;have r1:=rb_.cell 1 (.slice none 0 0) rfl;have z1:=rb_.live 1;have t2:=T11.out.cell 2 (.slice U'.lk.A U'.lk.n U'.lk.c) rfl;have r2:=rb_.cell 2 (.slice none 0 0) rfl
 have z2:=rb_.live 2;have t3:=T11.out.cell 3 (.slice U'.dm.A U'.dm.n U'.dm.c) rfl;have r3:=rb_.cell 3 (.slice none 0 0) rfl;have z3:=rb_.live 3;have t4:=T11.out.cell 4 (.slice U'.st.A U'.st.n U'.st.c) rfl;have r4:=rb_.cell 4 (.slice none 0 0) rfl;have z4:=rb_.live 4;have t5:=T11.out.cell 5 (.slice U'.fl.A U'.fl.n U'.fl.c) rfl;have r5:=rb_.cell 5 (.slice none 0 0) rfl;have z5:=rb_.live 5;have t6:=T11.out.cell 6 (.slice U'.vr.A U'.vr.n U'.vr.c) rfl
 have r6:=rb_.cell 6 (.slice none 0 0) rfl;have z6:=rb_.live 6;have t7:=T11.out.cell 7 (.slice U'.ir.A U'.ir.n U'.ir.c) rfl;have r7:=rb_.cell 7 (.slice none 0 0) rfl;have z7:=rb_.live 7;clear rb_;go_wp2;refine bodyPost_ret (vDd _ (st8 w11 (w.heap.size+2) U') U' (w.heap.size+2) 0 rfl rfl ((RB.out.below Y11.out).st8 U')) rfl ?_;rw [EV.out.1,EV.out.2];have ON:=O11.out.far (w':=st8 w11 (w.heap.size+2) U') (q:=w.heap.size+2) (by rw [st8_size];exact Nat.le_refl _) (fun b hb=>vGt _ _ _ hb) (by have:=Q7.out;have:=S78.out;omega) (by unfold vAs;omega)
 exact ⟨U',rfl,ON.read,Below.st8 (B1.out.trans (Y11.out.mono B1.out.size)) (by omega) U'⟩
theorem isl_nsl {w:World} {k:IntKind} {s:SlV} {xs:List Int} (h:ISl w k s.A s.n s.c xs):NSl w (vAs w) k s xs:=⟨h,fun hn ad e=>by
 obtain ⟨b,off,e2,hl,_⟩:=h.2.2.2 hn;rw [e] at e2
 injection e2 with e2
 rw [e2]
 exact hl⟩
theorem line_row {w:World} {L:LV} {s1 s2 s3 s4:SlV} {q:Nat} (h:LRead w L s1 s2 s3 s4) (e:w.heap[q]?=some (.cells (vEk L s1 s2 s3 s4).toArray 37)):RSl lineR w (vAs w) (some ⟨q,0,none⟩) 1 1 [L]:=by
 have hq:q<w.heap.size:=by
  rcases Nat.lt_or_ge q w.heap.size with h'|h'
  · exact h'
  · rw [Array.getElem?_eq_none h'] at e;cases e
 exact rsl_one lineR w _ q (vEk L s1 s2 s3 s4) L hq hq ⟨s1,s2,s3,s4,rfl,isl_nsl h.1,isl_nsl h.2.1,isl_nsl h.2.2.1,isl_nsl h.2.2.2⟩ (vEi (T:=37) e)
theorem great16_any (N:NV) (S:NSl3) (L:LV) (s1 s2 s3 s4:SlV) (w:World) (h:NRead w (vAs w) N S) (hl:LRead w L s1 s2 s3 s4):Calls Tryz.prog 6 #[vAx S,vBk L s1 s2 s3 s4] w (GotGr N L w):=by
 have UP:=hid (fun (w':World) (hb:Below w.heap.size w w')=>h.up hb);have UL:=hid (fun (w':World) (hb:Below w.heap.size w w')=>vBg hl hb)
 have G1:=fun (w':World) (hb:Below w.heap.size w w')=>ngreat_any N S w' (h.up hb)
 unfold GotNG vAx at G1;have G1:=hid G1;have G2:=hid (fun (q:Nat) (w':World) (hb:Below w.heap.size w w') (e:w'.heap[q]?=some (.cells (vEk L s1 s2 s3 s4).toArray 37))=>great12_any (some ⟨q,0,none⟩) 1 1 [L] w' (line_row (vBg hl hb) e));clear h hl;unfold vAx;rw [vGq]
 go_enter Tryz.func6,Tryz.ntmps6
 go_upto_region 1 with fail
 generalize hw1:World.alloc _ _=w1;obtain ⟨B1,NB,LB,ql1⟩:=pre_two (S:=S) (L:=L) (s1:=s1) (s2:=s2) (s3:=s3) (s4:=s4) hw1;clear hw1;replace B1:=hid B1;replace NB:=hid NB;replace LB:=hid LB
 have KN:=hid (show ∀wx,Below w1.heap.size w1 wx→NF wx w.heap.size S∧(wx.cell? ⟨w.heap.size+1,1,none⟩=some (.int .i64 L.kind))∧BoxF wx (w.heap.size+1) 17 (lc L s1 s2 s3 s4)∧NRead wx (vAs wx) N S∧LRead wx L s1 s2 s3 s4∧Below w.heap.size w wx from fun wx hx=>by
  have nb:=NB.out.below hx;have bx:=LB.out.below (by omega) hx;have b0:=B1.out.trans (hx.mono B1.out.size)
  exact ⟨⟨nb.c0,nb.c1,nb.c2,nb.c3,nb.c4,nb.c5,nb.c6,nb.c7⟩,bx.cell 1 (by omega),bx,UP.out _ b0,UL.out _ b0,b0⟩)
 have BS:=hid (Below.refl w1.heap.size w1);obtain ⟨⟨f0,f1,f2,f3,f4,f5,f6,f7⟩,g1,lb_,_⟩:=KN.out w1 (Below.refl _ _)
 go_wp2_with (first
  |(((with_reducible refine vAk ?hg (.tmp 3) ?ho (w.heap.size+1) ?hx L s1 s2 s3 s4 lb_ ?_);(case hg=>rfl);(case ho=>rfl);(case hx=>rfl));unfold vBk)
  |(go_at_call 11;(with_reducible refine (G1.out _ B1.out).mono ?_);rintro e w2 ⟨g,rfl,hg,b_⟩;have Y2:=hid b_;have X2:=hid (vAa B1.out b_);have HG:=hid hg;obtain ⟨⟨f0,f1,f2,f3,f4,f5,f6,f7⟩,g1,lb_,_⟩:=KN.out _ Y2.out;clear hg b_;cases g)
  |(go_at_call 26;(refine (G2.out w2.heap.size _ (vAa X2.out (vAc _ _)) (heap_alloc_new _ _)).mono ?_);rintro e w3 ⟨g,rfl,hg,b_⟩;have X3:=hid (vAa (X2.out.trans ((vAc _ _).mono X2.out.size)) b_);have HG3:=hid hg;clear hg b_))
 · go_ret
   exact ⟨g,rfl,fun e=>⟨HG.out (by simp),(HG3.out e).2 0 (by omega)⟩,X3.out⟩
 · go_ret
   exact ⟨true,rfl,(fun e=>by cases e),X2.out⟩
end Go.Proofs.YtkpbbfehglihlaaGreatDoor
