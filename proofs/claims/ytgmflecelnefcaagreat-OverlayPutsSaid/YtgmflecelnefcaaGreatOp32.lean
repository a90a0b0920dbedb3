import Derived.Test.YtgmflecelnefcaaGreatOp31
import Derived.Test.YtgmflecelnefcaaGreatOp25
set_option maxRecDepth 100000
set_option maxHeartbeats 40000000
namespace Go.Proofs.YtgmflecelnefcaaGreat
open Go.Lib (hid)
open Go.RowKit
open Go.Lib (decDigits)
theorem wa_no44 (x:Int):(44:UInt8)∉waS x:=by
 have key:∀u:Nat,(44:UInt8)∉decDigits u:=fun u h=>by
  have:=vBv u 44 h
  revert this
  decide
 unfold waS;rw [txt_parts];intro h;simp only [List.mem_append,List.mem_singleton] at h
 rcases h with (((((h|h)|h)|h)|h)|h)|h
 all_goals first|exact key _ h|(revert h;decide)
theorem wa_rd {a:Int} (h0:0≤a) (h1:a<4294967296):rdF (waS a)=some a.toNat:=rdF_iff.2 ⟨by omega,rfl⟩
theorem wa_back {a:Int} (h0:0≤a) (h1:a<4294967296):rdB (waS a)=true∧rdV (waS a)=a:=by
 unfold rdB rdV;rw [wa_rd h0 h1];refine ⟨rfl,?_⟩
 show ((a.toNat:Nat):Int)=a
 omega
theorem wa_len {a:Int} (h0:0≤a) (h1:a<4294967296):(waS a).length≤20:=txA_len ⟨h0,h1⟩
theorem wE_A {a:Int} (h0:0<a) (h1:a<4294967296):wdE 65 (waS a)=0:=by
 have b:=wa_back (a:=a) (by omega) h1;exact wdE_num (c:=65) (s:=waS a) (b:=rdB (waS a) && decide (0<rdV (waS a))) rfl (by rw [b.1,b.2,decide_eq_true h0];rfl)
theorem wal_back {xs:List Int} (h:vBs xs 0 4294967295=true):lsB rdA (jn waS xs)=true∧lsV rdA (jn waS xs)=xs:=by
 unfold vBs at h;rw [Bool.and_eq_true] at h
 have hx:rlF rdA (jn waS xs)=some xs:=rlF_back wa_no44 (fun x hx=>by
  have h2:=List.all_eq_true.1 h.2 x hx;simp only [Bool.and_eq_true,decide_eq_true_eq] at h2;unfold rdA;rw [wa_rd h2.1 (by omega)]
  show some ((x.toNat:Nat):Int)=some x
  congr 1
  omega) h.1
 have:=ls_yes hx
 exact ⟨this.2,this.1⟩
theorem risA_in {xs:List Int} (h:risA xs=true) (hb:∀x∈xs,0≤x∧x<4294967296):vBs xs 0 4294967295=true∧0<xs.getD 0 0:=by
 unfold risA at h;rw [Bool.and_eq_true,Bool.and_eq_true,decide_eq_true_eq,decide_eq_true_eq] at h
 cases xs with
 |nil=>exact absurd h.2.1 (by simp)
 |cons x r=>
  have h1:(decide (0<x) && upA x r)=true:=h.1;rw [Bool.and_eq_true,decide_eq_true_eq,upA_upB] at h1;refine ⟨?_,h1.1⟩;unfold vBs risB;rw [decide_eq_true h.2.1,decide_eq_true h.2.2,h1.2];simp only [Bool.and_true,Bool.true_and]
  refine List.all_eq_true.2 fun y hy=>?_
  have:=hb y hy
  rw [Bool.and_eq_true,decide_eq_true_eq,decide_eq_true_eq];omega
theorem rwords_k5 (L:LV) (s1 s2 s3 s4:SlV) (w:World) (h:LRead w L s1 s2 s3 s4) (hw:LvW L) (hk:L.kind=5):Calls Tryz.prog 179 #[vAv L s1 s2 s3 s4] w (GotWs (wrW L) w):=by
 have WR:=hid (show wrW L=[vFb,L.dev,waS L.addr] by unfold wrW;rw [if_neg (by rw [hk];decide),if_neg (by rw [hk];decide),if_neg (by rw [hk];decide),if_neg (by rw [hk];decide),if_pos hk]);have CA:=hid (fun (w':World) (_:LRead w' L s1 s2 s3 s4)=>show Calls Tryz.prog 195 #[.int .u32 L.addr] w' (fun e w2=>e=.returned (.string (str (waS L.addr)))∧Below w'.heap.size w' w2) from vGj L.addr hw.addr w')
 have H:=hid h;have HW:=hid hw;have P0:=hid (vCs w L s1 s2 s3 s4 37);have CV:=hid (fun w'=>vAo L.vlan hw.vlan.1 hw.vlan.2 w');have CN:=hid (fun w'=>vAo L.num hw.num.1 hw.num.2 w');have CC:=hid (fun w'=>vAo L.cost hw.cost.1 hw.cost.2 w');have CM:=hid (fun w'=>Mac.refText_any L.mac w' hw.mac.1 hw.mac.2);have HK:=hid hk;clear h hw hk
 unfold vAv
 go_enter Tryz.func179,Tryz.ntmps179
 go_upto_region 1 with fail
 obtain ⟨w1,hw1⟩:∃w1,w.alloc (.cells #[.int .i64 L.row,.int .i64 L.kind,.string (str L.dev),.string (str L.port),.string (str L.peer),.string (str L.far),.string (str L.name),.int .u64 L.mac,.int .u32 L.addr,.int .i64 L.bits,.int .i64 L.vlan,.int .i64 L.num,.int .i64 L.cost,.slice s1.A s1.n s1.c,.slice s2.A s2.n s2.c,.slice s3.A s3.n s3.c,.slice s4.A s4.n s4.c] 37)=w1:=⟨_,rfl⟩;have B1:=hid (show Below w.heap.size w w1 by rw [←hw1];exact (Below.refl _ _).alloc (Nat.le_refl _) _)
 rw [hw1] at P0 ⊢;have Q0:=hid (show w.heap.size<w1.heap.size by rw [←hw1];simp);clear hw1
 have KP:=hid (show ∀wx,Below w1.heap.size w1 wx→(wx.cell? ⟨w.heap.size,1,none⟩=some (.int .i64 5)∧wx.cell? ⟨w.heap.size,2,none⟩=some (.string (str L.dev))∧wx.cell? ⟨w.heap.size,7,none⟩=some (.int .u64 L.mac)∧wx.cell? ⟨w.heap.size,8,none⟩=some (.int .u32 L.addr)∧wx.cell? ⟨w.heap.size,10,none⟩=some (.int .i64 L.vlan)∧wx.cell? ⟨w.heap.size,11,none⟩=some (.int .i64 L.num))∧LRead wx L s1 s2 s3 s4∧Below w.heap.size w wx from fun wx hx=>by
  have bx:=P0.out.below (by omega) hx
  exact ⟨⟨(bx.cell 1 (by omega)).trans (by first|rfl|(show some (Value.int .i64 L.kind)=_;rw [HK.out])),(bx.cell 2 (by omega)).trans (by first|rfl|(show some (Value.int .i64 L.kind)=_;rw [HK.out])),(bx.cell 7 (by omega)).trans (by first|rfl|(show some (Value.int .i64 L.kind)=_;rw [HK.out])),(bx.cell 8 (by omega)).trans (by first|rfl|(show some (Value.int .i64 L.kind)=_;rw [HK.out])),(bx.cell 10 (by omega)).trans (by first|rfl|(show some (Value.int .i64 L.kind)=_;rw [HK.out])),(bx.cell 11 (by omega)).trans (by first|rfl|(show some (Value.int .i64 L.kind)=_;rw [HK.out]))⟩,⟨H.out.1.below (B1.out.trans (hx.mono B1.out.size)),H.out.2.1.below (B1.out.trans (hx.mono B1.out.size)),H.out.2.2.1.below (B1.out.trans (hx.mono B1.out.size)),H.out.2.2.2.below (B1.out.trans (hx.mono B1.out.size))⟩,B1.out.trans (hx.mono B1.out.size)⟩)
 obtain ⟨⟨c1,c2,c7,c8,c10,c11⟩,_,_⟩:=KP.out w1 (Below.refl _ _)
 go_wp2_with (first
  |(go_at_call 192;(with_reducible refine (CV.out _).mono ?_);rintro e w2 ⟨rfl,b_⟩;have Y2:=hid (b_);obtain ⟨⟨c1,c2,c7,c8,c10,c11⟩,_,_⟩:=KP.out _ Y2.out;clear b_)
  |(go_at_call 192;(with_reducible refine (CN.out _).mono ?_);rintro e w3 ⟨rfl,b_⟩;have Y3:=hid (vAa Y2.out b_);obtain ⟨⟨c1,c2,c7,c8,c10,c11⟩,_,_⟩:=KP.out _ Y3.out;clear b_)
  |(go_at_call 193;(with_reducible refine (CM.out _).mono ?_);rintro e w4 ⟨rfl,b_⟩;have Y4:=hid (vAa Y3.out b_);obtain ⟨⟨c1,c2,c7,c8,c10,c11⟩,_,_⟩:=KP.out _ Y4.out;clear b_))
 refine vGf (fun wx=>Below w1.heap.size w1 wx) 5 (by kernel_rfl) (by kernel_rfl) (vAd Y4.out 1) ?_;simp only [List.take_succ_cons,List.take_zero,List.drop_succ_cons,List.drop_zero]
 repeat
  first
   |(refine SeqT.run ?_ rfl (fun wx hx=>?_) ?_
     rotate_left
     · obtain ⟨⟨c1,c2,c7,c8,c10,c11⟩,hr_,_⟩:=KP.out wx hx
       go_simp
       first
        |(refine StepRun.val ?_;exact hx)
        |(refine StepRun.call (v:=.string (str (waS L.addr))) ?_;(with_reducible refine Calls.mono (CA.out _ hr_) ?_);rintro e w' ⟨rfl,hb⟩;exact ⟨rfl,vAa hx hb⟩)
     simp only [Act.put,List.setIfInBounds_toArray,List.set_cons_zero,List.set_cons_succ])
 refine SeqT.last (fun w6 h6=>?_);have B4:=hid (KP.out _ h6).2.2;go_wp2;go_ret;rw [WR.out];exact ⟨_,_,_,rfl,row_lit w6 [vFb,L.dev,waS L.addr] _ (by simp),B4.out.alloc B4.out.size _⟩
theorem rwords_k6 (L:LV) (s1 s2 s3 s4:SlV) (w:World) (h:LRead w L s1 s2 s3 s4) (hw:LvW L) (hk:L.kind=6):Calls Tryz.prog 179 #[vAv L s1 s2 s3 s4] w (GotWs (wrW L) w):=by
 have WR:=hid (show wrW L=[sVni,L.dev,wnS L.vlan,wnS L.num] by unfold wrW;rw [if_neg (by rw [hk];decide),if_neg (by rw [hk];decide),if_neg (by rw [hk];decide),if_neg (by rw [hk];decide),if_neg (by rw [hk];decide),if_pos hk]);have H:=hid h;have HW:=hid hw;have P0:=hid (vCs w L s1 s2 s3 s4 37);have CV:=hid (fun w'=>vAo L.vlan hw.vlan.1 hw.vlan.2 w');have CN:=hid (fun w'=>vAo L.num hw.num.1 hw.num.2 w')
 have CC:=hid (fun w'=>vAo L.cost hw.cost.1 hw.cost.2 w');have CM:=hid (fun w'=>Mac.refText_any L.mac w' hw.mac.1 hw.mac.2);have HK:=hid hk;clear h hw hk;unfold vAv
 go_enter Tryz.func179,Tryz.ntmps179
 go_upto_region 1 with fail
 obtain ⟨w1,hw1⟩:∃w1,w.alloc (.cells #[.int .i64 L.row,.int .i64 L.kind,.string (str L.dev),.string (str L.port),.string (str L.peer),.string (str L.far),.string (str L.name),.int .u64 L.mac,.int .u32 L.addr,.int .i64 L.bits,.int .i64 L.vlan,.int .i64 L.num,.int .i64 L.cost,.slice s1.A s1.n s1.c,.slice s2.A s2.n s2.c,.slice s3.A s3.n s3.c,.slice s4.A s4.n s4.c] 37)=w1:=⟨_,rfl⟩;have B1:=hid (show Below w.heap.size w w1 by rw [←hw1];exact (Below.refl _ _).alloc (Nat.le_refl _) _)
 rw [hw1] at P0 ⊢;have Q0:=hid (show w.heap.size<w1.heap.size by rw [←hw1];simp);clear hw1
 have KP:=hid (show ∀wx,Below w1.heap.size w1 wx→(wx.cell? ⟨w.heap.size,1,none⟩=some (.int .i64 6)∧wx.cell? ⟨w.heap.size,2,none⟩=some (.string (str L.dev))∧wx.cell? ⟨w.heap.size,7,none⟩=some (.int .u64 L.mac)∧wx.cell? ⟨w.heap.size,10,none⟩=some (.int .i64 L.vlan)∧wx.cell? ⟨w.heap.size,11,none⟩=some (.int .i64 L.num))∧LRead wx L s1 s2 s3 s4∧Below w.heap.size w wx from fun wx hx=>by
  have bx:=P0.out.below (by omega) hx
  exact ⟨⟨(bx.cell 1 (by omega)).trans (by first|rfl|(show some (Value.int .i64 L.kind)=_;rw [HK.out])),(bx.cell 2 (by omega)).trans (by first|rfl|(show some (Value.int .i64 L.kind)=_;rw [HK.out])),(bx.cell 7 (by omega)).trans (by first|rfl|(show some (Value.int .i64 L.kind)=_;rw [HK.out])),(bx.cell 10 (by omega)).trans (by first|rfl|(show some (Value.int .i64 L.kind)=_;rw [HK.out])),(bx.cell 11 (by omega)).trans (by first|rfl|(show some (Value.int .i64 L.kind)=_;rw [HK.out]))⟩,⟨H.out.1.below (B1.out.trans (hx.mono B1.out.size)),H.out.2.1.below (B1.out.trans (hx.mono B1.out.size)),H.out.2.2.1.below (B1.out.trans (hx.mono B1.out.size)),H.out.2.2.2.below (B1.out.trans (hx.mono B1.out.size))⟩,B1.out.trans (hx.mono B1.out.size)⟩)
 obtain ⟨⟨c1,c2,c7,c10,c11⟩,_,_⟩:=KP.out w1 (Below.refl _ _)
 go_wp2_with (first
  |(go_at_call 192;(with_reducible refine (CV.out _).mono ?_);rintro e w2 ⟨rfl,b_⟩;have Y2:=hid (b_);obtain ⟨⟨c1,c2,c7,c10,c11⟩,_,_⟩:=KP.out _ Y2.out;clear b_)
  |(go_at_call 192;(with_reducible refine (CN.out _).mono ?_);rintro e w3 ⟨rfl,b_⟩;have Y3:=hid (vAa Y2.out b_);obtain ⟨⟨c1,c2,c7,c10,c11⟩,_,_⟩:=KP.out _ Y3.out;clear b_)
  |(go_at_call 193;(with_reducible refine (CM.out _).mono ?_);rintro e w4 ⟨rfl,b_⟩;have Y4:=hid (vAa Y3.out b_);obtain ⟨⟨c1,c2,c7,c10,c11⟩,_,_⟩:=KP.out _ Y4.out;clear b_))
 go_ret;have B4:=(KP.out _ Y4.out).2.2;rw [WR.out];exact ⟨_,_,_,rfl,row_lit w4 [sVni,L.dev,wnS L.vlan,wnS L.num] _ (by simp),B4.alloc B4.size _⟩
theorem rwords_k7 (L:LV) (s1 s2 s3 s4:SlV) (w:World) (h:LRead w L s1 s2 s3 s4) (hw:LvW L) (hk:L.kind=7) (hn:L.addrs.length≤1000):Calls Tryz.prog 179 #[vAv L s1 s2 s3 s4] w (GotWs (wrW L) w):=by
 have WR:=hid (show wrW L=[vCl,L.dev,wnS L.num,jn waS L.addrs] by unfold wrW;rw [if_neg (by rw [hk];decide),if_neg (by rw [hk];decide),if_neg (by rw [hk];decide),if_neg (by rw [hk];decide),if_neg (by rw [hk];decide),if_neg (by rw [hk];decide),if_pos hk]);have CA:=hid (fun (w':World) (hr:LRead w' L s1 s2 s3 s4)=>show Calls Tryz.prog 196 #[.slice s4.A s4.n s4.c] w' (fun e w2=>e=.returned (.string (str (jn waS L.addrs)))∧Below w'.heap.size w' w2) from refListA_any s4.A s4.n s4.c L.addrs w' hr.2.2.2 (by have:=hr.2.2.2.len;omega) (fun x hx=>hw.addrs x hx))
 have H:=hid h;have HW:=hid hw;have P0:=hid (vCs w L s1 s2 s3 s4 37);have CV:=hid (fun w'=>vAo L.vlan hw.vlan.1 hw.vlan.2 w');have CN:=hid (fun w'=>vAo L.num hw.num.1 hw.num.2 w');have CC:=hid (fun w'=>vAo L.cost hw.cost.1 hw.cost.2 w');have CM:=hid (fun w'=>Mac.refText_any L.mac w' hw.mac.1 hw.mac.2);have HK:=hid hk;clear h hw hk hn
 unfold vAv
 go_enter Tryz.func179,Tryz.ntmps179
 go_upto_region 1 with fail
 obtain ⟨w1,hw1⟩:∃w1,w.alloc (.cells #[.int .i64 L.row,.int .i64 L.kind,.string (str L.dev),.string (str L.port),.string (str L.peer),.string (str L.far),.string (str L.name),.int .u64 L.mac,.int .u32 L.addr,.int .i64 L.bits,.int .i64 L.vlan,.int .i64 L.num,.int .i64 L.cost,.slice s1.A s1.n s1.c,.slice s2.A s2.n s2.c,.slice s3.A s3.n s3.c,.slice s4.A s4.n s4.c] 37)=w1:=⟨_,rfl⟩;have B1:=hid (show Below w.heap.size w w1 by rw [←hw1];exact (Below.refl _ _).alloc (Nat.le_refl _) _)
 rw [hw1] at P0 ⊢;have Q0:=hid (show w.heap.size<w1.heap.size by rw [←hw1];simp);clear hw1
 have KP:=hid (show ∀wx,Below w1.heap.size w1 wx→(wx.cell? ⟨w.heap.size,1,none⟩=some (.int .i64 7)∧wx.cell? ⟨w.heap.size,2,none⟩=some (.string (str L.dev))∧wx.cell? ⟨w.heap.size,7,none⟩=some (.int .u64 L.mac)∧wx.cell? ⟨w.heap.size,10,none⟩=some (.int .i64 L.vlan)∧wx.cell? ⟨w.heap.size,11,none⟩=some (.int .i64 L.num)∧wx.cell? ⟨w.heap.size,16,none⟩=some (.slice s4.A s4.n s4.c))∧LRead wx L s1 s2 s3 s4∧Below w.heap.size w wx from fun wx hx=>by
  have bx:=P0.out.below (by omega) hx
  exact ⟨⟨(bx.cell 1 (by omega)).trans (by first|rfl|(show some (Value.int .i64 L.kind)=_;rw [HK.out])),(bx.cell 2 (by omega)).trans (by first|rfl|(show some (Value.int .i64 L.kind)=_;rw [HK.out])),(bx.cell 7 (by omega)).trans (by first|rfl|(show some (Value.int .i64 L.kind)=_;rw [HK.out])),(bx.cell 10 (by omega)).trans (by first|rfl|(show some (Value.int .i64 L.kind)=_;rw [HK.out])),(bx.cell 11 (by omega)).trans (by first|rfl|(show some (Value.int .i64 L.kind)=_;rw [HK.out])),(bx.cell 16 (by omega)).trans (by first|rfl|(show some (Value.int .i64 L.kind)=_;rw [HK.out]))⟩,⟨H.out.1.below (B1.out.trans (hx.mono B1.out.size)),H.out.2.1.below (B1.out.trans (hx.mono B1.out.size)),H.out.2.2.1.below (B1.out.trans (hx.mono B1.out.size)),H.out.2.2.2.below (B1.out.trans (hx.mono B1.out.size))⟩,B1.out.trans (hx.mono B1.out.size)⟩)
 obtain ⟨⟨c1,c2,c7,c10,c11,c16⟩,_,_⟩:=KP.out w1 (Below.refl _ _)
 go_wp2_with (first
  |(go_at_call 192;(with_reducible refine (CV.out _).mono ?_);rintro e w2 ⟨rfl,b_⟩;have Y2:=hid (b_);obtain ⟨⟨c1,c2,c7,c10,c11,c16⟩,_,_⟩:=KP.out _ Y2.out;clear b_)
  |(go_at_call 192;(with_reducible refine (CN.out _).mono ?_);rintro e w3 ⟨rfl,b_⟩;have Y3:=hid (vAa Y2.out b_);obtain ⟨⟨c1,c2,c7,c10,c11,c16⟩,_,_⟩:=KP.out _ Y3.out;clear b_)
  |(go_at_call 193;(with_reducible refine (CM.out _).mono ?_);rintro e w4 ⟨rfl,b_⟩;have Y4:=hid (vAa Y3.out b_);obtain ⟨⟨c1,c2,c7,c10,c11,c16⟩,_,_⟩:=KP.out _ Y4.out;clear b_))
 refine vGf (fun wx=>Below w1.heap.size w1 wx) 6 (by kernel_rfl) (by kernel_rfl) (vAd Y4.out 1) ?_;simp only [List.take_succ_cons,List.take_zero,List.drop_succ_cons,List.drop_zero]
 repeat
  first
   |(refine SeqT.run ?_ rfl (fun wx hx=>?_) ?_
     rotate_left
     · obtain ⟨⟨c1,c2,c7,c10,c11,c16⟩,hr_,_⟩:=KP.out wx hx
       go_simp
       first
        |(refine StepRun.val ?_;exact hx)
        |(refine StepRun.call (v:=.string (str (jn waS L.addrs))) ?_;(with_reducible refine Calls.mono (CA.out _ hr_) ?_);rintro e w' ⟨rfl,hb⟩;exact ⟨rfl,vAa hx hb⟩)
     simp only [Act.put,List.setIfInBounds_toArray,List.set_cons_zero,List.set_cons_succ])
 refine SeqT.last (fun w6 h6=>?_);have B4:=hid (KP.out _ h6).2.2;go_wp2;go_ret;rw [WR.out];exact ⟨_,_,_,rfl,row_lit w6 [vCl,L.dev,wnS L.num,jn waS L.addrs] _ (by simp),B4.out.alloc B4.out.size _⟩
theorem wr_len567 {L:LV} (hw:LvW L) (hs:LvSm L) (hk:L.kind=5∨L.kind=6∨L.kind=7):∀p∈wrW L,p.length≤1000000:=by
 have t:=hs.txt;have hv:=wn_len hw.vlan;have hn:=wn_len hw.num;have ha:=wa_len hw.addr.1 hw.addr.2;intro p hp
 rcases hk with hk|hk|hk
 · have e:wrW L=[vFb,L.dev,waS L.addr]:=by unfold wrW;rw [if_neg (by rw [hk];decide),if_neg (by rw [hk];decide),if_neg (by rw [hk];decide),if_neg (by rw [hk];decide),if_pos hk]
   rw [e] at hp;simp only [List.mem_cons,List.not_mem_nil,or_false] at hp
   rcases hp with rfl|rfl|rfl
   · decide
   all_goals omega
 · have e:wrW L=[sVni,L.dev,wnS L.vlan,wnS L.num]:=by unfold wrW;rw [if_neg (by rw [hk];decide),if_neg (by rw [hk];decide),if_neg (by rw [hk];decide),if_neg (by rw [hk];decide),if_neg (by rw [hk];decide),if_pos hk]
   rw [e] at hp;simp only [List.mem_cons,List.not_mem_nil,or_false] at hp
   rcases hp with rfl|rfl|rfl|rfl
   · decide
   all_goals omega
 · have e:wrW L=[vCl,L.dev,wnS L.num,jn waS L.addrs]:=by unfold wrW;rw [if_neg (by rw [hk];decide),if_neg (by rw [hk];decide),if_neg (by rw [hk];decide),if_neg (by rw [hk];decide),if_neg (by rw [hk];decide),if_neg (by rw [hk];decide),if_pos hk]
   rw [e] at hp;simp only [List.mem_cons,List.not_mem_nil,or_false] at hp
   rcases hp with rfl|rfl|rfl|rfl
   · decide
   · omega
   · omega
   · have:=jnK_len2 (f:=waS) (xs:=L.addrs) (fun x hx=>wa_len (hw.addrs x hx).1 (hw.addrs x hx).2) L.addrs.length (Nat.le_refl _)
     have l:=hs.lst
     show (jnK waS L.addrs L.addrs.length).length≤1000000
     omega
theorem fm_vtep2 {ws:List (List UInt8)} (p:wat ws 0=vFb) (h0:ws≠[]):fmV ws=[78,65]:=by
 have k:kdV (wat ws 0)=5:=by rw [p];decide +kernel
 unfold fmV;rw [if_neg h0,if_neg (by rw [k];decide),if_neg (by rw [k];decide),if_neg (by rw [k];decide),if_pos k]
theorem fm_vni2 {ws:List (List UInt8)} (p:wat ws 0=sVni) (h0:ws≠[]):fmV ws=[78,86,73]:=by
 have k:kdV (wat ws 0)=6:=by rw [p];decide +kernel
 unfold fmV;rw [if_neg h0,if_neg (by rw [k];decide),if_neg (by rw [k];decide),if_neg (by rw [k];decide),if_neg (by rw [k];decide),if_pos k]
theorem fm_flood2 {ws:List (List UInt8)} (p:wat ws 0=vCl) (h0:ws≠[]):fmV ws=[78,73,76]:=by
 have k:kdV (wat ws 0)=7:=by rw [p];decide +kernel
 unfold fmV;rw [if_neg h0,if_neg (by rw [k];decide),if_neg (by rw [k];decide),if_neg (by rw [k];decide),if_neg (by rw [k];decide),if_neg (by rw [k];decide),if_pos k]
theorem back5 (row:Int) (L:LV) (h:Kd5 row L):rdE (wrW L) row=0∧rdL (wrW L) row=L:=by
 obtain ⟨s,a,rfl,hs,ha⟩:=h;have e:wrW {LV.new row 5 with dev:=s,addr:=a}=[vFb,s,waS a]:=rfl;rw [e]
 have hr:vDy [78,65] ([vFb,s,waS a].drop 1) 0 (LV.new row 5)=(0,{LV.new row 5 with dev:=s,addr:=a}):=by
  show vDy [78,65] [s,waS a] 0 (LV.new row 5)=_
  have key:∀w2:List UInt8,wdE 65 w2=0→vDy [78,65] [s,w2] 0 (LV.new row 5)=(0,{LV.new row 5 with dev:=s,addr:=rdV w2}):=fun w2 a=>by
   rw [vEd (wdE_N hs),vEd a]
   rfl
  rw [key _ (wE_A ha.1 (by omega)),(wa_back (a:=a) (by omega) (by omega)).2]
 obtain ⟨h1,h2⟩:=rd_of (ws:=[vFb,s,waS a]) (row:=row) (fm_vtep2 rfl (by simp)) (by simp) rfl (show kdV (wat [vFb,s,waS a] 0)=5 from (by decide +kernel:kdV vFb=5)) hr
 have e0:rdE [vFb,s,waS a] row=0:=by rw [h1];rfl
 exact ⟨e0,by rw [h2,if_pos e0]⟩
theorem back6 (row:Int) (L:LV) (h:Kd6 row L):rdE (wrW L) row=0∧rdL (wrW L) row=L:=by
 obtain ⟨s,v,a,rfl,hs,hv,ha⟩:=h;have e:wrW {LV.new row 6 with dev:=s,vlan:=v,num:=a}=[sVni,s,wnS v,wnS a]:=rfl;rw [e]
 have hr:vDy [78,86,73] ([sVni,s,wnS v,wnS a].drop 1) 0 (LV.new row 6)=(0,{LV.new row 6 with dev:=s,vlan:=v,num:=a}):=by
  show vDy [78,86,73] [s,wnS v,wnS a] 0 (LV.new row 6)=_
  have key:∀w2 w3:List UInt8,wdE 86 w2=0→wdE 73 w3=0→vDy [78,86,73] [s,w2,w3] 0 (LV.new row 6)=(0,{LV.new row 6 with dev:=s,vlan:=nV w2 1 4094,num:=nV w3 1 16777215}):=fun w2 w3 a b=>by
   rw [vEd (wdE_N hs),vEd a,vEd b]
   rfl
  rw [key _ _ (wE_num (c:=86) (lo:=1) (hi:=4094) rfl hv.1 hv.2 (by omega)) (wE_num (c:=73) (lo:=1) (hi:=16777215) rfl ha.1 ha.2 (by omega)),(wn_back hv.1 hv.2 (by omega)).2,(wn_back ha.1 ha.2 (by omega)).2]
 obtain ⟨h1,h2⟩:=rd_of (ws:=[sVni,s,wnS v,wnS a]) (row:=row) (fm_vni2 rfl (by simp)) (by simp) rfl (show kdV (wat [sVni,s,wnS v,wnS a] 0)=6 from (by decide +kernel:kdV sVni=6)) hr
 have e0:rdE [sVni,s,wnS v,wnS a] row=0:=by rw [h1];rfl
 exact ⟨e0,by rw [h2,if_pos e0]⟩
theorem back7 (row:Int) (L:LV) (h:Kd7 row L):rdE (wrW L) row=0∧rdL (wrW L) row=L:=by
 obtain ⟨s,a,xs,rfl,hs,ha,hx⟩:=h;have e:wrW {LV.new row 7 with dev:=s,num:=a,addrs:=xs}=[vCl,s,wnS a,jn waS xs]:=rfl;rw [e];have wb:=wal_back hx.1
 have hr:vDy [78,73,76] ([vCl,s,wnS a,jn waS xs].drop 1) 0 (LV.new row 7)=(0,{LV.new row 7 with dev:=s,num:=a,addrs:=xs}):=by
  show vDy [78,73,76] [s,wnS a,jn waS xs] 0 (LV.new row 7)=_
  have key:∀w2 w3:List UInt8,wdE 73 w2=0→wdE 76 w3=0→vDy [78,73,76] [s,w2,w3] 0 (LV.new row 7)=(0,{LV.new row 7 with dev:=s,num:=nV w2 1 16777215,addrs:=lsV rdA w3}):=fun w2 w3 a b=>by
   rw [vEd (wdE_N hs),vEd a,vEd b]
   rfl
  rw [key _ _ (wE_num (c:=73) (lo:=1) (hi:=16777215) rfl ha.1 ha.2 (by omega)) (wdE_num (c:=76) (s:=jn waS xs) (b:=lsB rdA (jn waS xs) && decide (0<(lsV rdA (jn waS xs)).getD 0 0)) rfl (by rw [wb.1,wb.2,decide_eq_true hx.2];rfl)),(wn_back ha.1 ha.2 (by omega)).2,wb.2]
 obtain ⟨h1,h2⟩:=rd_of (ws:=[vCl,s,wnS a,jn waS xs]) (row:=row) (fm_flood2 rfl (by simp)) (by simp) rfl (show kdV (wat [vCl,s,wnS a,jn waS xs] 0)=7 from (by decide +kernel:kdV vCl=7)) hr
 have e0:rdE [vCl,s,wnS a,jn waS xs] row=0:=by rw [h1];rfl
 exact ⟨e0,by rw [h2,if_pos e0]⟩
theorem may8_of {a:Int} (h:vCo 8 {WV.zero with addr:=a}=true):a≠0:=by
 rw [vBe rfl] at h;have h2:(!decide (a=0))=true:=h;simpa using h2
theorem may12_of {xs:List Int} (h:vCo 12 {WV.zero with addrs:=xs}=true):risA xs=true:=by
 rw [vBe rfl] at h;exact h
theorem rg_kd5 {L:LV} (h:rgB L=true) (k:L.kind=5) (ha:0≤L.addr∧L.addr<4294967296):Kd5 L.row L:=by
 have hp:pts L.kind true=[(0,0),(8,10)]:=by rw [k];rfl
 have h1:=(rgB_yes h).2;rw [hp] at h1;obtain ⟨a1,h1⟩:=rg_of h1;obtain ⟨a2,h1⟩:=rg_of h1;obtain ⟨f0,f1,f2,f3,f4,f5,f6,f7,f8,f9,f10,f11,f12,f13,f14,f15,f16⟩:=L;dsimp only at k ha;subst k
 have h2:({(⟨f0,5,f2,f3,f4,f5,f6,f7,f8,f9,f10,f11,f12,f13,f14,f15,f16⟩:LV) with dev:=[],addr:=0}:LV)=LV.new f0 5:=by injection h1
 simp only [LV.new,LV.mk.injEq] at h2;obtain ⟨_,_,_,rfl,rfl,rfl,rfl,rfl,_,rfl,rfl,rfl,rfl,rfl,rfl,rfl,rfl⟩:=h2;exact ⟨f2,f8,rfl,may0_of a1,by have q:f8≠0:=may8_of a2;omega⟩
theorem rg_kd6 {L:LV} (h:rgB L=true) (k:L.kind=6):Kd6 L.row L:=by
 have hp:pts L.kind true=[(0,0),(4,7),(6,6)]:=by rw [k];rfl
 have h1:=(rgB_yes h).2;rw [hp] at h1;obtain ⟨a1,h1⟩:=rg_of h1;obtain ⟨a2,h1⟩:=rg_of h1;obtain ⟨a3,h1⟩:=rg_of h1;obtain ⟨f0,f1,f2,f3,f4,f5,f6,f7,f8,f9,f10,f11,f12,f13,f14,f15,f16⟩:=L;dsimp only at k;subst k
 have h2:({(⟨f0,6,f2,f3,f4,f5,f6,f7,f8,f9,f10,f11,f12,f13,f14,f15,f16⟩:LV) with dev:=[],vlan:=0,num:=0}:LV)=LV.new f0 6:=by injection h1
 simp only [LV.new,LV.mk.injEq] at h2;obtain ⟨_,_,_,rfl,rfl,rfl,rfl,rfl,rfl,rfl,_,_,rfl,rfl,rfl,rfl,rfl⟩:=h2;exact ⟨f2,f10,f11,rfl,may0_of a1,vHr (w:=4) (lo:=1) (hi:=4094) rfl rfl a2,vHr (w:=6) (lo:=1) (hi:=16777215) rfl rfl a3⟩
theorem rg_kd7 {L:LV} (h:rgB L=true) (k:L.kind=7) (hx:∀x∈L.addrs,0≤x∧x<4294967296):Kd7 L.row L:=by
 have hp:pts L.kind true=[(0,0),(6,6),(12,15)]:=by rw [k];rfl
 have h1:=(rgB_yes h).2;rw [hp] at h1;obtain ⟨a1,h1⟩:=rg_of h1;obtain ⟨a2,h1⟩:=rg_of h1;obtain ⟨a3,h1⟩:=rg_of h1;obtain ⟨f0,f1,f2,f3,f4,f5,f6,f7,f8,f9,f10,f11,f12,f13,f14,f15,f16⟩:=L;dsimp only at k hx;subst k
 have h2:({(⟨f0,7,f2,f3,f4,f5,f6,f7,f8,f9,f10,f11,f12,f13,f14,f15,f16⟩:LV) with dev:=[],num:=0,addrs:=[]}:LV)=LV.new f0 7:=by injection h1
 simp only [LV.new,LV.mk.injEq] at h2;obtain ⟨_,_,_,rfl,rfl,rfl,rfl,rfl,rfl,rfl,rfl,_,rfl,rfl,rfl,rfl,_⟩:=h2;exact ⟨f2,f11,f16,rfl,may0_of a1,vHr (w:=6) (lo:=1) (hi:=16777215) rfl rfl a2,risA_in (may12_of a3) hx⟩
theorem risn_len {x:List Int} {lo hi:Int} (h:vBs x lo hi=true):x.length≤16:=by
 unfold vBs at h;rw [Bool.and_eq_true] at h;exact ((vCd x).1 h.1).2.1
theorem rg_of5 {row:Int} {L:LV} (h:Kd5 row L):rgB L=true:=by
 obtain ⟨s,a,rfl,hs,ha⟩:=h;refine rgB_of (ps:=[(0,0),(8,10)]) rfl (by decide) rfl ?_;exact vFl (may0 hs) (vFl (may8 ha.1) (show vDp [] _=some _ from rfl))
theorem rread_k5 {ws:List (List UInt8)} (row:Int) (h1:ws.length=3) (h0:wat ws 0=vFb) (hs:∀p∈ws,p.length≤1000000) (A:Option Addr) (n c:Nat) (w:World) (h:SSl w A n c ws):Calls Tryz.prog 178 #[.slice A n c,.int .i64 row] w (vGg w (rdL ws row) (rdE ws row)):=by
 have hn:ws≠[]:=fun e=>by rw [e] at h1;cases h1
 have hf:=fm_vtep2 h0 hn
 have hk:kdV (wat ws 0)=5:=by rw [h0];decide +kernel
 refine rread_kd row hf (by decide) h1 hk (by decide) hs (fun A n c w g=>?_) (by rw [h0];exact kind_vtep) (fun c hc=>?_) A n c w h
 · rw [hf]
   exact form_vtep A n c ws w g (by rw [←g.len,h1];decide) h0
 · simp only [List.mem_cons,List.not_mem_nil,or_false] at hc
   rcases hc with rfl|rfl
   · exact vEg rword_N
   · exact vEg rword_A
theorem rrw_k5 {L:LV} {p1 p2:List UInt8} (g:rrW L [vFb,p1,p2]=true):rgB L=true:=by
 unfold rrW at g;rw [Bool.and_eq_true] at g;have g2:=g.2;rw [Bool.and_eq_true,decide_eq_true_eq,vDx] at g2;obtain ⟨z,e⟩:=rd_line (ws:=[vFb,p1,p2]) (fm_vtep2 rfl (by simp)) (by decide) rfl (show kdV (wat [vFb,p1,p2] 0)=5 from (by decide +kernel:kdV vFb=5)) (by decide) g2.1
 have k:Kd5 L.row L:=by
  have t:Kd5 L.row (rdL [vFb,p1,p2] L.row):=by rw [e];exact rk5 L.row p1 p2 z
  rw [←g2.2] at t;exact t
 exact rg_of5 k
theorem lst_k5 {row:Int} {L:LV} (h:Kd5 row L):L.tagged.length≤16∧L.imports.length≤16∧L.exports.length≤16∧L.addrs.length≤16:=by
 obtain ⟨s,a,rfl,hs,ha⟩:=h;exact ⟨Nat.zero_le _,Nat.zero_le _,Nat.zero_le _,Nat.zero_le _⟩
theorem rg_of6 {row:Int} {L:LV} (h:Kd6 row L):rgB L=true:=by
 obtain ⟨s,v,a,rfl,hs,hv,ha⟩:=h;refine rgB_of (ps:=[(0,0),(4,7),(6,6)]) rfl (by decide) rfl ?_;exact vFl (may0 hs) (vFl (may_num (w:=4) (lo:=1) (hi:=4094) rfl hv.1 hv.2) (vFl (may_num (w:=6) (lo:=1) (hi:=16777215) rfl ha.1 ha.2) (show vDp [] _=some _ from rfl)))
theorem rread_k6 {ws:List (List UInt8)} (row:Int) (h1:ws.length=4) (h0:wat ws 0=sVni) (hs:∀p∈ws,p.length≤1000000) (A:Option Addr) (n c:Nat) (w:World) (h:SSl w A n c ws):Calls Tryz.prog 178 #[.slice A n c,.int .i64 row] w (vGg w (rdL ws row) (rdE ws row)):=by
 have hn:ws≠[]:=fun e=>by rw [e] at h1;cases h1
 have hf:=fm_vni2 h0 hn
 have hk:kdV (wat ws 0)=6:=by rw [h0];decide +kernel
 refine rread_kd row hf (by decide) h1 hk (by decide) hs (fun A n c w g=>?_) (by rw [h0];exact kind_vni) (fun c hc=>?_) A n c w h
 · rw [hf]
   exact form_vni A n c ws w g (by rw [←g.len,h1];decide) h0
 · simp only [List.mem_cons,List.not_mem_nil,or_false] at hc
   rcases hc with rfl|rfl|rfl
   · exact vEg rword_N
   · exact vEg rword_V
   · exact vEg rword_I
theorem rrw_k6 {L:LV} {p1 p2 p3:List UInt8} (g:rrW L [sVni,p1,p2,p3]=true):rgB L=true:=by
 unfold rrW at g;rw [Bool.and_eq_true] at g;have g2:=g.2;rw [Bool.and_eq_true,decide_eq_true_eq,vDx] at g2;obtain ⟨z,e⟩:=rd_line (ws:=[sVni,p1,p2,p3]) (fm_vni2 rfl (by simp)) (by decide) rfl (show kdV (wat [sVni,p1,p2,p3] 0)=6 from (by decide +kernel:kdV sVni=6)) (by decide) g2.1
 have k:Kd6 L.row L:=by
  have t:Kd6 L.row (rdL [sVni,p1,p2,p3] L.row):=by rw [e];exact rk6 L.row p1 p2 p3 z
  rw [←g2.2] at t;exact t
 exact rg_of6 k
theorem lst_k6 {row:Int} {L:LV} (h:Kd6 row L):L.tagged.length≤16∧L.imports.length≤16∧L.exports.length≤16∧L.addrs.length≤16:=by
 obtain ⟨s,v,a,rfl,hs,hv,ha⟩:=h;exact ⟨Nat.zero_le _,Nat.zero_le _,Nat.zero_le _,Nat.zero_le _⟩
theorem rg_of7 {row:Int} {L:LV} (h:Kd7 row L):rgB L=true:=by
 obtain ⟨s,a,x,rfl,hs,ha,hx⟩:=h;refine rgB_of (ps:=[(0,0),(6,6),(12,15)]) rfl (by decide) rfl ?_;exact vFl (may0 hs) (vFl (may_num (w:=6) (lo:=1) (hi:=16777215) rfl ha.1 ha.2) (vFl (may12 hx.1 hx.2) (show vDp [] _=some _ from rfl)))
theorem rread_k7 {ws:List (List UInt8)} (row:Int) (h1:ws.length=4) (h0:wat ws 0=vCl) (hs:∀p∈ws,p.length≤1000000) (A:Option Addr) (n c:Nat) (w:World) (h:SSl w A n c ws):Calls Tryz.prog 178 #[.slice A n c,.int .i64 row] w (vGg w (rdL ws row) (rdE ws row)):=by
 have hn:ws≠[]:=fun e=>by rw [e] at h1;cases h1
 have hf:=fm_flood2 h0 hn
 have hk:kdV (wat ws 0)=7:=by rw [h0];decide +kernel
 refine rread_kd row hf (by decide) h1 hk (by decide) hs (fun A n c w g=>?_) (by rw [h0];exact kind_flood) (fun c hc=>?_) A n c w h
 · rw [hf]
   exact form_flood A n c ws w g (by rw [←g.len,h1];decide) h0
 · simp only [List.mem_cons,List.not_mem_nil,or_false] at hc
   rcases hc with rfl|rfl|rfl
   · exact vEg rword_N
   · exact vEg rword_I
   · exact vEg rword_L
theorem rrw_k7 {L:LV} {p1 p2 p3:List UInt8} (g:rrW L [vCl,p1,p2,p3]=true):rgB L=true:=by
 unfold rrW at g;rw [Bool.and_eq_true] at g;have g2:=g.2;rw [Bool.and_eq_true,decide_eq_true_eq,vDx] at g2;obtain ⟨z,e⟩:=rd_line (ws:=[vCl,p1,p2,p3]) (fm_flood2 rfl (by simp)) (by decide) rfl (show kdV (wat [vCl,p1,p2,p3] 0)=7 from (by decide +kernel:kdV vCl=7)) (by decide) g2.1
 have k:Kd7 L.row L:=by
  have t:Kd7 L.row (rdL [vCl,p1,p2,p3] L.row):=by rw [e];exact rk7 L.row p1 p2 p3 z
  rw [←g2.2] at t;exact t
 exact rg_of7 k
theorem lst_k7 {row:Int} {L:LV} (h:Kd7 row L):L.tagged.length≤16∧L.imports.length≤16∧L.exports.length≤16∧L.addrs.length≤16:=by
 obtain ⟨s,a,x,rfl,hs,ha,hx⟩:=h;exact ⟨Nat.zero_le _,Nat.zero_le _,Nat.zero_le _,risn_len hx.1⟩
theorem rright_k567 (L:LV) (s1 s2 s3 s4:SlV) (w:World) (h:LRead w L s1 s2 s3 s4) (hw:LvW L) (hs:LvSm L) (hk:L.kind=5∨L.kind=6∨L.kind=7):Calls Tryz.prog 145 #[vAv L s1 s2 s3 s4] w fun e w'=>e=.returned (.bool (rgB L))∧Below w.heap.size w w':=by
 have hn:L.addrs.length≤1000:=by have:=hs.lst;omega
 have hl:=wr_len567 hw hs hk
 rcases hk with k|k|k
 · have e:wrW L=[vFb,L.dev,waS L.addr]:=by unfold wrW;rw [if_neg (by rw [k];decide),if_neg (by rw [k];decide),if_neg (by rw [k];decide),if_neg (by rw [k];decide),if_pos k]
   have:=vHz L (wrW L) s1 s2 s3 s4 w h (fun w' hr=>rwords_k5 L s1 s2 s3 s4 w' hr hw k) (fun A n c w' hr=>by
    have q:=hl;rw [e] at hr q ⊢
    exact rread_k5 L.row rfl rfl q A n c w' hr)
   rw [show rrW L (wrW L)=rgB L by
    rw [Bool.eq_iff_iff]
    exact ⟨fun g=>rrw_k5 (e▸g),fun g=>by have kd:=rg_kd5 g k hw.addr;exact rrw_yes (lst_k5 kd) (back5 _ _ kd)⟩] at this
   exact this
 · have e:wrW L=[sVni,L.dev,wnS L.vlan,wnS L.num]:=by unfold wrW;rw [if_neg (by rw [k];decide),if_neg (by rw [k];decide),if_neg (by rw [k];decide),if_neg (by rw [k];decide),if_neg (by rw [k];decide),if_pos k]
   have:=vHz L (wrW L) s1 s2 s3 s4 w h (fun w' hr=>rwords_k6 L s1 s2 s3 s4 w' hr hw k) (fun A n c w' hr=>by
    have q:=hl;rw [e] at hr q ⊢
    exact rread_k6 L.row rfl rfl q A n c w' hr)
   rw [show rrW L (wrW L)=rgB L by
    rw [Bool.eq_iff_iff]
    exact ⟨fun g=>rrw_k6 (e▸g),fun g=>by have kd:=rg_kd6 g k;exact rrw_yes (lst_k6 kd) (back6 _ _ kd)⟩] at this
   exact this
 · have e:wrW L=[vCl,L.dev,wnS L.num,jn waS L.addrs]:=by unfold wrW;rw [if_neg (by rw [k];decide),if_neg (by rw [k];decide),if_neg (by rw [k];decide),if_neg (by rw [k];decide),if_neg (by rw [k];decide),if_neg (by rw [k];decide),if_pos k]
   have:=vHz L (wrW L) s1 s2 s3 s4 w h (fun w' hr=>rwords_k7 L s1 s2 s3 s4 w' hr hw k hn) (fun A n c w' hr=>by
    have q:=hl;rw [e] at hr q ⊢
    exact rread_k7 L.row rfl rfl q A n c w' hr)
   rw [show rrW L (wrW L)=rgB L by
    rw [Bool.eq_iff_iff]
    exact ⟨fun g=>rrw_k7 (e▸g),fun g=>by have kd:=rg_kd7 g k hw.addrs;exact rrw_yes (lst_k7 kd) (back7 _ _ kd)⟩] at this
   exact this
theorem vt_no {N:NV} {L:LV} (h:vtE N L≠0):vtN N L=NV.zero:=by unfold vtN;rw [if_neg h]
theorem vn_no {N:NV} {L:LV} (h:vnE N L≠0):vnN N L=NV.zero:=by unfold vnN;rw [if_neg h]
theorem fl_no {N:NV} {L:LV} (h:flE N L≠0):flN N L=NV.zero:=by unfold flN;rw [if_neg h]
theorem kd5_addr {N:NV} {L:LV} (h:vCk N L 5=true) (ha:0≤L.addr∧L.addr<4294967296):L.addr≠0:=by
 obtain ⟨k,r,_⟩:=vDm.1 h;obtain ⟨s,a,e,_,g,_⟩:=rg_kd5 r k ha;rw [e]
 show a≠0
 omega
theorem kd7_addrs {N:NV} {L:LV} (h:vCk N L 7=true) (hx:∀x∈L.addrs,0≤x∧x<4294967296):L.addrs.length≤16∧1≤L.num∧L.num≤16777215:=by
 obtain ⟨k,r,_⟩:=vDm.1 h;obtain ⟨s,a,xs,e,_,g,g2,_⟩:=rg_kd7 r k hx;rw [e];unfold vBs at g2;rw [Bool.and_eq_true] at g2;exact ⟨((vCd xs).1 g2.1).2.1,g.1,g.2⟩
theorem fl_sz {N:NV} (row:Int) (d:Nat) (v:Int) {xs:List Int} (h:NvSz N) (hx:xs.length≤16) (z:N.floods.length<48):NvSz (vBg N row d v xs):=by
 refine ⟨h.zdv,h.zpt,h.zlk,h.zdm,h.zst,by rw [fl_len];omega,h.zvr,h.zir,h.ipt,h.idm,fun j hj=>?_,h.ivr⟩;rw [fl_len] at hj
 by_cases ho:j<N.floods.length
 · rw [show (vBg N row d v xs).floods.getD j FloodV.zero=N.floods.getD j FloodV.zero from getD_old ho]
   exact h.ifl j ho
 · obtain rfl:j=N.floods.length:=by omega
   have e:(vBg N row d v xs).floods.getD N.floods.length FloodV.zero=⟨row,d,v,xs⟩:=by
    show (N.floods++[_]).getD _ _=_
    have:=getD_new (xs:=N.floods) (ys:=[(⟨row,d,v,xs⟩:FloodV)]) (j:=0) (d:=FloodV.zero)
    rw [Nat.add_zero] at this;rw [this]
    rfl
   rw [e]
   show xs.length≤100
   omega
end Go.Proofs.YtgmflecelnefcaaGreat
