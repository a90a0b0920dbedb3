import Derived.Test.YtgmflecelnefcaaGreatOm43
import Derived.Test.YtgmflecelnefcaaGreatOm15
import Derived.Test.YtgmflecelnefcaaGreatOm47
import Derived.Test.YtgmflecelnefcaaGreatOm45
import Derived.Test.YtgmflecelnefcaaGreatOm03
set_option maxRecDepth 100000
set_option maxHeartbeats 40000000
namespace Go.Proofs.YtgmflecelnefcaaGreat
open Go.Lib (hid)
open Go.RowKit
theorem lhas_any (A:Option Addr) (n c:Nat) (xs:List Int) (x:Int) (w:World) (h:ISl w .i64 A n c xs):Calls Tryz.prog 24 #[.slice A n c,.int .i64 x] w fun e w'=>e=.returned (.bool (memB xs x))∧w=w':=by
 have hle:=h.le;have hcap:=h.cap;have HL:=hid h.len;have H:=hid h;have E1:=hid (show x∈xs→memB xs x=true from fun hx=>decide_eq_true hx);have E0:=hid (show x∉xs→memB xs x=false from fun hx=>decide_eq_false hx);generalize memB xs x=V at *;clear h
 go_enter Tryz.func24,Tryz.ntmps24
 go_wp2
 go_loopw [9] (fun i wr=>∃k:Nat,i=.int .i64 k∧k≤n∧wr=w∧x∉xs.take k) (fun i _=>match i with| .int _ y=>(n - y).toNat|_=>0)
 case atStart=>exact ⟨0,rfl,by omega,rfl,by simp⟩
 case round=>
  obtain ⟨k,rfl,hk,rfl,hx⟩:=hrel;have HX:=hid hx;clear hx
  by_cases hlt:k<n
  · obtain ⟨b,off,rfl,hb,hc⟩:=H.out.2.2.2 (by omega)
    have c0:=hc k hlt
    have hk2:k<xs.length:=by rw [HL.out];exact hlt
    have NX:=hid (fun hy=>memB_take hk2 HX.out hy);have YX:=hid (show xs.getD k 0=x→x∈xs from fun e=>by rw [←e];simp [List.getD,hk2]);generalize xs.getD k 0=y at *
    have lt2:(k:Int)<(n:Int):=by omega
    clear hc hk2
    by_cases hy:y=x
    · have ev:=E1.out (YX.out hy)
      have ey:(y == x)=true:=by simpa using hy
      subst ev;go_wp2;go_ret;exact ⟨rfl,rfl⟩
    · have ey:(y == x)=false:=by simpa using hy
      have N2:=hid (NX.out hy);go_wp2
      go_roundw
      case rel=>exact ⟨k+1,by simp,by omega,(by first|rfl|trivial),N2.out⟩
      case measure=>simp only [];omega
  · have ev:=E0.out (by have:=HX.out;rwa [List.take_of_length_le (by rw [HL.out];omega)] at this)
    have lt2:¬(k:Int)<(n:Int):=by omega
    subst ev;go_wp2;go_ret;exact ⟨rfl,rfl⟩
structure FullOk (M:NV):Prop where
 pl:∀i,i<M.domains.length→∀j,j<(M.domains.getD i DomV.zero).peers.length→∃k:Nat,(M.domains.getD i DomV.zero).peers.getD j 0=(k:Int)∧k<M.domains.length∧memB (M.domains.getD k DomV.zero).peers (i:Int)=true∧(M.domains.getD k DomV.zero).vni=(M.domains.getD i DomV.zero).vni∧(M.domains.getD k DomV.zero).dev≠(M.domains.getD i DomV.zero).dev∧∀m,m<(M.domains.getD i DomV.zero).peers.length→(M.domains.getD i DomV.zero).peers.getD m 0≠(k:Int)→memB (M.domains.getD k DomV.zero).peers ((M.domains.getD i DomV.zero).peers.getD m 0)=true
theorem mem_getD9 {xs:List Int} {j:Nat} (h:j<xs.length):xs.getD j 0∈xs:=by simp [List.getD,h]
theorem full_ok {N:NV} (h:meE N=0):FullOk (msN N):=by
 obtain ⟨hn,ha,hm,_,_⟩:=me_0 h;have hg:=agK_none ha;refine ⟨fun i hi j hj=>?_⟩;have P:=(hm.dm.2 i hi j hj).1;obtain ⟨p1,_,p3,p4,_,_,_,p8⟩:=peer_iff.1 P;obtain ⟨q1,q2⟩:=(plB_iff _ _).1 p1;obtain ⟨k,hk⟩:=Int.eq_ofNat_of_zero_le q1;rw [hk] at p3 p4 p8
 have hkl:k<(msN N).domains.length:=by omega
 refine ⟨k,hk,hkl,p8,p4.symm,p3.symm,fun m hml hne=>?_⟩;rw [ms_len] at hi hkl;have hx:=mem_getD9 hml;have hy:=mem_getD9 hj;rw [hk] at hy;rw [ms_at hi] at hx hy hne ⊢;obtain ⟨_,_,_,f4⟩:=ms_full hg (dev:=(N.domains.getD i DomV.zero).dev) (v:=(N.domains.getD i DomV.zero).vni) hy hx hne;rw [ms_at hkl];exact decide_eq_true f4
theorem ms_nm {N:NV} (h:NmSz N):NmSz (msN N):=⟨h.dv,h.pt,h.vr⟩
theorem ofull_walk (N:NV) (S:NSl3) (w:World) (h:NRead w (allB w) N S) (hm:NmSz N):Calls Tryz.prog 5 #[netV S] w fun e w'=>e=.returned (.bool true)∧Below w.heap.size w w':=by
 have UP:=hid (fun (w':World) (hb:Below w.heap.size w w')=>h.up hb);have HM:=hid hm;have NB:=hid (NBox.new w S 31)
 have G1:=fun (w':World) (hb:Below w.heap.size w w')=>ngreat_any N S w' (h.up hb)
 have NDL:=hid h.dm.len;have nle:=h.dm.le;have ncap:=h.dm.cap;clear h hm;unfold netV at G1 ⊢;replace G1:=hid G1
 go_enter Tryz.func5,Tryz.ntmps5
 go_upto_region 1 with fail
 obtain ⟨w1,hw1⟩:∃w1,w.alloc (.cells (nA S) 31)=w1:=⟨_,rfl⟩;have B1:=hid (show Below w.heap.size w w1 by rw [←hw1];exact alloc_below _ _);rw [hw1] at NB ⊢;clear hw1
 have KN:=hid (show ∀wx,Below w1.heap.size w1 wx→(NF wx w.heap.size S)∧Below w.heap.size w wx from fun wx hx=>by
  have nb:=NB.out.below hx
  exact ⟨⟨nb.c0,nb.c1,nb.c2,nb.c3,nb.c4,nb.c5,nb.c6,nb.c7⟩,trans_below B1.out hx⟩)
 go_upto_region 3 with (go_at_call 8;(with_reducible refine (works19_any _).mono ?_);rintro e w2 ⟨rfl,b_⟩;have Y2:=hid b_;have X2:=hid (trans_below B1.out b_);obtain ⟨f0,f1,f2,f3,f4,f5,f6,f7⟩:=(KN.out _ b_).1;clear b_)
 go_wp2_with (go_at_call 16;(with_reducible refine (G1.out _ X2.out).mono ?_);rintro e w3 ⟨g,rfl,hg,b_⟩;have Y3:=hid (trans_below Y2.out b_);have X3:=hid (trans_below X2.out b_);have HG:=hid hg;obtain ⟨f0,f1,f2,f3,f4,f5,f6,f7⟩:=(KN.out _ Y3.out).1;clear hg b_;cases g)
 rotate_left
 · go_wp2
   go_ret;exact ⟨rfl,X3.out⟩
 have SN:=HG.out (by simp)
 have XM:=fun (w':World) (hb:Below w.heap.size w w')=>xmesh_any N S w' (UP.out w' hb) SN HM.out
 have SS:=hid SN;obtain ⟨R,hR⟩:∃v,meR N=v:=⟨_,rfl⟩;obtain ⟨E,hE⟩:∃v,meE N=v:=⟨_,rfl⟩;have HE:=hid hE;have HR:=hid hR;rw [hR,hE] at XM;obtain ⟨M,hM⟩:∃v,meN N=v:=⟨_,rfl⟩;have HMM:=hid hM;rw [hM] at XM;unfold GotMe netV at XM;replace XM:=hid XM;have XS:=hid (fun (M:NV) (A B:NSl3) (w':World) (ha:NRead w' (allB w') M A) (hb:NRead w' (allB w') M B) (hz:NvSz M)=>show Calls Tryz.prog 22 #[netV A,netV B] w' (fun e w''=>e=.returned (.bool true)∧Below w'.heap.size w' w'') from by have:=xnsame_any M M A B w' ha hb hz hz;rw [nsmB_yes rfl] at this;exact this)
 unfold netV at XS;clear hR hE hM SN HG G1
 go_upto_region 6 with (go_at_call 17;(with_reducible refine (XM.out _ X3.out).mono ?_);rintro e w4 ⟨U,rfl,hr,hb⟩;have RU:=hid hr;have Y4:=hid (trans_below Y3.out hb);clear hr hb)
 clear f0 f1 f2 f3 f4 f5 f6 f7;obtain ⟨w5,hw5⟩:∃w5,w4.alloc (.cells #[.slice U.dv.A U.dv.n U.dv.c,.slice U.pt.A U.pt.n U.pt.c,.slice U.lk.A U.lk.n U.lk.c,.slice U.dm.A U.dm.n U.dm.c,.slice U.st.A U.st.n U.st.c,.slice U.fl.A U.fl.n U.fl.c,.slice U.vr.A U.vr.n U.vr.c,.slice U.ir.A U.ir.n U.ir.c] 31)=w5:=⟨_,rfl⟩
 have A_:Below w4.heap.size w4 w5:=by rw [←hw5];exact alloc_below _ _
 obtain ⟨qa,hqa⟩:∃q,w4.heap.size=q:=⟨_,rfl⟩;have NBa:=hid (show NBox w5 qa U by rw [←hw5,←hqa];exact NBox.new _ _ _);have NRa:=hid (RU.out.up A_);have Y5:=hid (trans_below Y4.out A_);rw [hw5,hqa];clear hw5 hqa A_ RU
 have KA:=hid (show ∀wx,Below w5.heap.size w5 wx→(wx.cell? ⟨qa,0,none⟩=some (.slice U.dv.A U.dv.n U.dv.c)∧wx.cell? ⟨qa,1,none⟩=some (.slice U.pt.A U.pt.n U.pt.c)∧wx.cell? ⟨qa,2,none⟩=some (.slice U.lk.A U.lk.n U.lk.c)∧wx.cell? ⟨qa,3,none⟩=some (.slice U.dm.A U.dm.n U.dm.c)∧wx.cell? ⟨qa,4,none⟩=some (.slice U.st.A U.st.n U.st.c)∧wx.cell? ⟨qa,5,none⟩=some (.slice U.fl.A U.fl.n U.fl.c)∧wx.cell? ⟨qa,6,none⟩=some (.slice U.vr.A U.vr.n U.vr.c)∧wx.cell? ⟨qa,7,none⟩=some (.slice U.ir.A U.ir.n U.ir.c))∧qa<wx.heap.size∧NRead wx (allB wx) M U∧NF wx w.heap.size S∧Below w.heap.size w wx from fun wx hx=>by
  have na:=NBa.out.below hx;have kn:=KN.out wx (trans_below Y5.out hx)
  exact ⟨⟨na.c0,na.c1,na.c2,na.c3,na.c4,na.c5,na.c6,na.c7⟩,na.lt,NRa.out.up hx,kn.1,kn.2⟩)
 have I0:=hid (Below.refl w5.heap.size w5);obtain ⟨⟨a0,a1,a2,a3,a4,a5,a6,a7⟩,lU,nU,⟨f0,f1,f2,f3,f4,f5,f6,f7⟩,hx_⟩:=KA.out _ I0.out;have XC:=hid hx_;clear hx_
 by_cases c:E=0
 rotate_left
 · have y:(E != 0)=true:=by simpa using c
   have EM:=hid (show M=NV.zero by rw [←HMM.out];unfold meN;rw [HE.out,if_neg c]);clear c;go_wp2_with (go_at_call 22;(refine (XS.out NV.zero U NSl3.nil _ (EM.out▸nU) (none_read _) none_sz).mono ?_);rintro e w6 ⟨rfl,hb⟩;have X6:=hid (trans_below XC.out hb);clear hb);go_ret;exact ⟨rfl,X6.out⟩
 have y:(E != 0)=false:=by simpa using c
 obtain ⟨hn,hag,hmk,e4,e5⟩:=me_0 (N:=N) (by rw [HE.out];exact c)
 have EM:M=msN N:=by rw [←HMM.out];exact e4
 have ER:R=0:=by rw [←HR.out];exact e5
 have FU:=hid (full_ok (N:=N) (by rw [HE.out];exact c));obtain ⟨g1,g2⟩:=me_again (N:=N) (by rw [HE.out];exact c);subst ER
 have hml:M.domains.length=N.domains.length:=by rw [EM];exact ms_len N
 have SM_:NvSz M:=by rw [EM];exact ms_sz SS.out hn
 have NM_:NmSz M:=by rw [EM];exact ms_nm HM.out
 have OKM:NetOk M:=by rw [EM];exact hmk
 have T1:=FU.out;rw [←EM] at T1 g1 g2;replace FU:=hid T1
 have RT:=fun (w':World) (hb:Below w5.heap.size w5 w')=>xnright_any M U w' (KA.out w' hb).2.2.1 SM_
 rw [netB_yes OKM] at RT
 have XA:=fun (w':World) (hb:Below w5.heap.size w5 w')=>xmesh_any M U w' (KA.out w' hb).2.2.1 SM_ NM_
 rw [g1,g2] at XA;obtain ⟨R2,hR2⟩:∃v,meR M=v:=⟨_,rfl⟩;rw [hR2] at XA;have MLEN:=hid (show M.domains.length=U.dm.n from nU.dm.len);have SMH:=hid SM_;have ule:=nU.dm.le
 have u9_:U.dm.n≤200:=by have:=SM_.zdm;have:=nU.dm.len;omega
 have len_:((U.dm.n:Int) != (S.dm.n:Int))=false:=by have:=nU.dm.len;have:=NDL.out;simp;omega
 unfold netV at RT;unfold GotMe netV at XA;replace RT:=hid RT;replace XA:=hid XA;clear c hn hag hmk e4 e5 EM g1 g2 hml SM_ NM_ OKM T1 hR2 HMM XM HE HR
 go_upto_region 11 with (first
  |(go_at_call 23;(with_reducible refine (RT.out _ I0.out).mono ?_);rintro e wa_ ⟨rfl,hb⟩;replace I0:=hid (trans_below I0.out hb);clear nU hb;obtain ⟨⟨a0,a1,a2,a3,a4,a5,a6,a7⟩,lU,nU,⟨f0,f1,f2,f3,f4,f5,f6,f7⟩,hx_⟩:=KA.out _ I0.out;have XC:=hid hx_;clear hx_)
  |(go_at_call 17;(with_reducible refine (XA.out _ I0.out).mono ?_);rintro e w6 ⟨V,rfl,hr,hb⟩;have RV:=hid hr;have I6:=hid (trans_below I0.out hb);clear hr hb))
 clear f0 f1 f2 f3 f4 f5 f6 f7 a0 a1 a2 a3 a4 a5 a6 a7 lU nU;obtain ⟨w7,hw7⟩:∃w7,w6.alloc (.cells #[.slice V.dv.A V.dv.n V.dv.c,.slice V.pt.A V.pt.n V.pt.c,.slice V.lk.A V.lk.n V.lk.c,.slice V.dm.A V.dm.n V.dm.c,.slice V.st.A V.st.n V.st.c,.slice V.fl.A V.fl.n V.fl.c,.slice V.vr.A V.vr.n V.vr.c,.slice V.ir.A V.ir.n V.ir.c] 31)=w7:=⟨_,rfl⟩
 have A_:Below w6.heap.size w6 w7:=by rw [←hw7];exact alloc_below _ _
 obtain ⟨qb,hqb⟩:∃q,w6.heap.size=q:=⟨_,rfl⟩;have NBb:=hid (show NBox w7 qb V by rw [←hw7,←hqb];exact NBox.new _ _ _);have NRb:=hid (RV.out.up A_);have I7:=hid (trans_below I6.out A_);rw [hw7,hqb];clear hw7 hqb A_ RV I0;obtain ⟨b0,b1,b2,b3,b4,b5,b6,b7,lV⟩:=NBb.out;obtain ⟨⟨a0,a1,a2,a3,a4,a5,a6,a7⟩,lU,nU,⟨f0,f1,f2,f3,f4,f5,f6,f7⟩,hx_⟩:=KA.out _ I7.out;obtain ⟨UA,hUA⟩:∃A,U.dm.A=A:=⟨_,rfl⟩
 have EUA:=hid hUA;clear hUA hx_
 go_upto_region 13 with (go_at_call 22;(with_reducible refine (XS.out M V U _ NRb.out nU SMH.out).mono ?_);rintro e w8 ⟨rfl,hb⟩;have I8:=hid (trans_below I7.out hb);clear nU hb f0 f1 f2 f3 f4 f5 f6 f7 a0 a1 a2 a3 a4 a5 a6 a7 b0 b1 b2 b3 b4 b5 b6 b7 lU lV;obtain ⟨⟨a0,a1,a2,a3,a4,a5,a6,a7⟩,lU,nU,⟨f0,f1,f2,f3,f4,f5,f6,f7⟩,hx_⟩:=KA.out _ I8.out;clear hx_)
 rw [EUA.out] at a3;clear nU;go_wp2;clear f0 f1 f2 f3 f4 f5 f6 f7 a0 a1 a2 a3 a4 a5 a6 a7 lU
 go_loopw [63] (fun i wr=>∃k:Nat,i=.int .i64 k∧k≤U.dm.n∧Below w5.heap.size w5 wr) (fun i _=>match i with| .int _ y=>(U.dm.n - y).toNat|_=>0)
 case atStart=>exact ⟨0,rfl,by omega,I8.out⟩
 case round=>
 obtain ⟨i,rfl,hi,hb⟩:=hrel;have IR:=hid hb;clear hb
 by_cases hlt:i<U.dm.n
 rotate_left
 · have lt2:¬(i:Int)<(U.dm.n:Int):=by omega
   have XE:=hid (KA.out _ IR.out).2.2.2.2;go_wp2;go_ret;exact ⟨rfl,XE.out⟩
 have lt2:(i:Int)<(U.dm.n:Int):=by omega
 have hil:i<M.domains.length:=by have:=MLEN.out;omega
 have PL:=hid (FU.out.pl i hil);have rU:=NRa.out;obtain ⟨b0,o0,vs,e0,_,hb0,⟨s,rfl,ls⟩,r0⟩:=rsl_at rU.dm i hlt DomV.zero;have eA:=EUA.out;rw [e0] at eA;subst eA;have E0:=hid e0
 have RD:=hid (fun (k:Nat) (hk:k<U.dm.n)=>show ∃t:Sl3,(∀wx,Below w5.heap.size w5 wx→wx.cell? ⟨b0,o0+k * 6,none⟩=some (.int .i64 (M.domains.getD k DomV.zero).dev)∧wx.cell? ⟨b0,o0+k * 6+2,none⟩=some (.int .i64 (M.domains.getD k DomV.zero).vni)∧wx.cell? ⟨b0,o0+k * 6+5,none⟩=some (.slice t.A t.n t.c)∧RSl (Rdr.int .i64) wx (allB wx) t.A t.n t.c (M.domains.getD k DomV.zero).peers)∧t.n≤t.c from by
  obtain ⟨b2,o2,vs2,e2,_,hb2,⟨t,rfl,lt_⟩,r2⟩:=rsl_at rU.dm k hk DomV.zero;rw [e0] at e2
  injection e2 with e2
  injection e2 with e2 e3
  subst e2 e3;refine ⟨t,fun wx hx=>?_,lt_.le⟩;have q:=rangeAt_keep r2 (hx.block b0 hb2)
  exact ⟨q 0 _ rfl,q 2 _ rfl,q 5 _ rfl,up_rsl lt_ hx⟩)
 have R1:=rangeAt_keep r0 (IR.out.block b0 hb0);obtain ⟨D,hD⟩:∃D,M.domains.getD i DomV.zero=D:=⟨_,rfl⟩;have T1:=PL.out;rw [hD] at T1 ls R1;replace PL:=hid T1;have d0:=R1 0 _ rfl;have d1:=R1 1 _ rfl;have d2:=R1 2 _ rfl;have d3:=R1 3 _ rfl;have d4:=R1 4 _ rfl;have d5:=R1 5 _ rfl;simp only [Nat.add_zero] at d0;rw [show o0+i * domR.n=o0+i * 6 from rfl] at d0 d1 d2 d3 d4 d5;have sle:=ls.le;have scap:=ls.cap
 have LS:=hid ls;have SLEN:=hid ls.len;clear r0 R1 e0 ls rU T1 hD hb0;rename World=>wr
 go_upto_region 16 with fail
 obtain ⟨w9,hw9⟩:∃w9,wr.alloc (.cells #[.int .i64 D.dev,.int .i64 D.vlan,.int .i64 D.vni,.int .i64 D.irb,.int .i64 D.row,.slice s.A s.n s.c] 54)=w9:=⟨_,rfl⟩;obtain ⟨q9,hq9⟩:∃q,wr.heap.size=q:=⟨_,rfl⟩;have I9:=hid (show Below w5.heap.size w5 w9 by rw [←hw9];exact trans_below IR.out (alloc_below _ _));have C9:=hid (show TBx w9 q9 54 [.int .i64 D.dev,.int .i64 D.vlan,.int .i64 D.vni,.int .i64 D.irb,.int .i64 D.row,.slice s.A s.n s.c] by rw [←hw9,←hq9];exact TBx.new wr _ _)
 rw [hw9];rw [hq9];clear hw9 hq9 d0 d1 d2 d3 d4 d5
 have KD:=hid (show ∀wx,Below w9.heap.size w9 wx→wx.cell? ⟨qa,3,none⟩=some (.slice (some ⟨b0,o0,none⟩) U.dm.n U.dm.c)∧(wx.cell? ⟨q9,0,none⟩=some (.int .i64 D.dev)∧wx.cell? ⟨q9,1,none⟩=some (.int .i64 D.vlan)∧wx.cell? ⟨q9,2,none⟩=some (.int .i64 D.vni)∧wx.cell? ⟨q9,3,none⟩=some (.int .i64 D.irb)∧wx.cell? ⟨q9,4,none⟩=some (.int .i64 D.row)∧wx.cell? ⟨q9,5,none⟩=some (.slice s.A s.n s.c))∧qa<wx.heap.size∧q9<wx.heap.size∧Below w5.heap.size w5 wx from fun wx hx=>by
  have hy:=trans_below I9.out hx;obtain ⟨⟨_,_,_,a3,_⟩,lU,_⟩:=KA.out wx hy;rw [E0.out] at a3;have r:=C9.out.below hx
  exact ⟨a3,⟨r.cell 0 _ rfl,r.cell 1 _ rfl,r.cell 2 _ rfl,r.cell 3 _ rfl,r.cell 4 _ rfl,r.cell 5 _ rfl⟩,lU,r.lt,hy⟩)
 have Z9:=hid (Below.refl w9.heap.size w9);obtain ⟨SA,hSA⟩:∃A,s.A=A:=⟨_,rfl⟩;have ESA:=hid hSA;clear hSA;obtain ⟨a3,⟨g0,g1,g2,g3,g4,g5⟩,la_,lq_,_⟩:=KD.out _ Z9.out;rw [ESA.out] at g5;go_wp2;clear a3 g0 g1 g2 g3 g4 g5 la_ lq_
 go_loopw [71] (fun j wr=>∃m:Nat,j=.int .i64 m∧m≤s.n∧Below w9.heap.size w9 wr) (fun j _=>match j with| .int _ y=>(s.n - y).toNat|_=>0)
 case atStart=>exact ⟨0,rfl,by omega,Z9.out⟩
 case round=>
 obtain ⟨m,rfl,hm,hb⟩:=hrel;have ZR:=hid hb;clear hb
 by_cases hl2:m<s.n
 rotate_left
 · have lt3:¬(m:Int)<(s.n:Int):=by omega
   have IE:=hid (trans_below I9.out ZR.out);go_wp2
   go_roundw
   case rel=>exact ⟨i+1,by simp,by omega,IE.out⟩
   case measure=>simp only [];omega
 have lt3:(m:Int)<(s.n:Int):=by omega
 have hml:m<D.peers.length:=by have:=SLEN.out;omega
 obtain ⟨k,hk,hkl,p3,p4,p5,p6⟩:=PL.out m hml
 have hku:k<U.dm.n:=by have:=MLEN.out;omega
 have lk:(k:Int)<(U.dm.n:Int):=by omega
 have k0_:decide ((k:Int)<0)=false:=decide_eq_false (by omega);have k1_:decide (U.dm.n≤k)=false:=decide_eq_false (by omega);obtain ⟨ba,oa,es,hba,hca⟩:=(isl_rsl LS.out).2.2.2 (by omega);have eA:=ESA.out;rw [es] at eA;subst eA;have CA:=hid (fun (j:Nat) (hj:j<s.n) (wx:World) (hx:Below w5.heap.size w5 wx)=>show wx.cell? ⟨ba,oa+j,none⟩=some (.int .i64 (D.peers.getD j 0)) from (hx.cell (p:=⟨ba,oa+j,none⟩) hba).trans (hca j hj))
 have ES:=hid es;obtain ⟨t,ht,tle⟩:=RD.out k hku;have tcap:=(ht w5 (Below.refl _ _)).2.2.2.cap;generalize M.domains.getD k DomV.zero=Q at *
 have y4:(Q.vni != D.vni)=false:=by simpa using p4
 have y5:(Q.dev == D.dev)=false:=by simpa using p5
 have HT:=hid ht;have HI:=hid (fun (w':World) (hb:Below w5.heap.size w5 w')=>show Calls Tryz.prog 24 #[.slice t.A t.n t.c,.int .i64 (i:Int)] w' (fun e w''=>e=.returned (.bool true)∧w'=w'') from p3▸lhas_any t.A t.n t.c Q.peers (i:Int) w' (isl_rsl (ht w' hb).2.2.2));have HX:=hid (fun (j:Nat) (hj:j<D.peers.length) (hne:D.peers.getD j 0≠(k:Int)) (w':World) (hb:Below w5.heap.size w5 w')=>show Calls Tryz.prog 24 #[.slice t.A t.n t.c,.int .i64 (D.peers.getD j 0)] w' (fun e w''=>e=.returned (.bool true)∧w'=w'') from p6 j hj hne▸lhas_any t.A t.n t.c Q.peers (D.peers.getD j 0) w' (isl_rsl (ht w' hb).2.2.2))
 clear ht p3 p4 p5 p6 hba hca es
 have KX:=hid (show ∀wx,Below w9.heap.size w9 wx→wx.cell? ⟨qa,3,none⟩=some (.slice (some ⟨b0,o0,none⟩) U.dm.n U.dm.c)∧(wx.cell? ⟨q9,0,none⟩=some (.int .i64 D.dev)∧wx.cell? ⟨q9,2,none⟩=some (.int .i64 D.vni)∧wx.cell? ⟨q9,5,none⟩=some (.slice (some ⟨ba,oa,none⟩) s.n s.c))∧(wx.cell? ⟨b0,o0+k * 6,none⟩=some (.int .i64 Q.dev)∧wx.cell? ⟨b0,o0+k * 6+2,none⟩=some (.int .i64 Q.vni)∧wx.cell? ⟨b0,o0+k * 6+5,none⟩=some (.slice t.A t.n t.c))∧wx.cell? ⟨ba,oa+m,none⟩=some (.int .i64 (k:Int))∧qa<wx.heap.size∧q9<wx.heap.size∧Below w5.heap.size w5 wx from fun wx hx=>by
  obtain ⟨a3,⟨g0,_,g2,_,_,g5⟩,la,lq,hy⟩:=KD.out wx hx;obtain ⟨h1,h2,h3,_⟩:=HT.out wx hy;rw [ES.out] at g5
  exact ⟨a3,⟨g0,g2,g5⟩,⟨h1,h2,h3⟩,by rw [←hk];exact CA.out m hl2 wx hy,la,lq,hy⟩)
 rename World=>wm;obtain ⟨a3,⟨g0,g2,g5⟩,⟨h1,h2,h3⟩,ca_,la_,lq_,hy_⟩:=KX.out _ ZR.out;clear hy_
 go_upto_region 19 with fail
 clear a3 g0 g2 g5 h1 h2 h3 ca_ la_ lq_;refine wp_region_text (fun wx=>Below w9.heap.size w9 wx) (by kernel_rfl) (by kernel_rfl) (below_drewN ZR.out 1) ?_
 repeat
  first
   |(refine Seq.pass rfl ?_;simp only [Act.put,List.setIfInBounds_toArray,List.set_cons_zero,List.set_cons_succ])
   |(refine Seq.run ?_ rfl (fun wx hx=>?_) ?_
     rotate_left
     · obtain ⟨a3,⟨g0,g2,g5⟩,⟨h1,h2,h3⟩,ca_,la_,lq_,hy_⟩:=KX.out wx hx
       go_simp
       first
        |(refine StepRun.val ?_;exact hx)
        |(refine StepRun.call (v:=.bool true) ?_;(with_reducible refine Calls.mono (HI.out _ hy_) ?_);rintro e w' ⟨rfl,rfl⟩;exact ⟨rfl,hx⟩)
     simp only [Act.put,List.setIfInBounds_toArray,List.set_cons_zero,List.set_cons_succ])
 refine Seq.last (fun w10 h10=>?_);have Z10:=hid h10;clear h10;obtain ⟨a3,⟨g0,g2,g5⟩,⟨h1,h2,h3⟩,ca_,la_,lq_,hy_⟩:=KX.out _ Z10.out;clear hy_;go_wp2;clear a3 g0 g2 g5 h1 h2 h3 ca_ la_ lq_
 go_loopw [120] (fun j wr=>∃l:Nat,j=.int .i64 l∧l≤s.n∧Below w9.heap.size w9 wr) (fun j _=>match j with| .int _ y=>(s.n - y).toNat|_=>0)
 case atStart=>exact ⟨0,rfl,by omega,Z10.out⟩
 case round=>
 obtain ⟨l,rfl,hl,hb⟩:=hrel;have ZL:=hid hb;clear hb
 by_cases hl3:l<s.n
 rotate_left
 · have lt4:¬(l:Int)<(s.n:Int):=by omega
   go_wp2
   go_roundw
   case rel=>exact ⟨m+1,by simp,by omega,ZL.out⟩
   case measure=>simp only [];omega
 have lt4:(l:Int)<(s.n:Int):=by omega
 have hll:l<D.peers.length:=by have:=SLEN.out;omega
 obtain ⟨a3,⟨g0,g2,g5⟩,⟨h1,h2,h3⟩,ca_,la_,lq_,hy_⟩:=KX.out _ ZL.out;have cx_:=CA.out l hl3 _ hy_;have HL:=HX.out l hll;obtain ⟨x,hx⟩:∃x,D.peers.getD l 0=x:=⟨_,rfl⟩;rw [hx] at cx_ HL;clear hx
 by_cases c1:x=(k:Int)
 · have y1:(x != (k:Int))=false:=by simpa using c1
   clear c1 HL hy_;go_wp2
   go_roundw
   case rel=>exact ⟨l+1,by simp,by omega,ZL.out⟩
   case measure=>simp only [];omega
 have y1:(x != (k:Int))=true:=by simpa using c1
 have HL:=hid (HL c1);have YL:=hid hy_;clear c1 hy_;go_wp2_with (go_at_call 24;(with_reducible refine (HL.out _ YL.out).mono ?_);rintro e wz_ ⟨rfl,rfl⟩)
 go_roundw
 case rel=>exact ⟨l+1,by simp,by omega,ZL.out⟩
 case measure=>simp only [];omega
end Go.Proofs.YtgmflecelnefcaaGreat
