import Derived.Test.YtgmflecelnefcaaGreatOp39
import Derived.Test.YtgmflecelnefcaaGreatOp40
import Derived.Test.YtgmflecelnefcaaGreatOp02
import Derived.SizedLaws
set_option maxRecDepth 100000
set_option maxHeartbeats 40000000
namespace Go.Proofs.YtgmflecelnefcaaGreat
open Go.Lib (hid)
open Go.RowKit
theorem desc_dev:Desc Tryz.prog 58 5:=Desc.of (by kernel_rfl)
theorem each_dev (A:Option Addr) (n c:Nat) (xs:List DevV) (w:World) (h:RSl devR w (vAp w) A n c xs) (hn:n≤200) (hz:∀k,k<n→(xs.getD k DevV.zero).name.length≤140737488351232):Calls Tryz.prog 95 #[.slice A n c,.func (.func 96) #[] #[]] w (GotO devR 58 xs w):=by
 have hle:=h.le;have hcap:=h.cap;have HL:=hid h.len;have H:=hid h;have HN:=hid hn;have HZ:=hid hz;obtain ⟨i0,z0,hi,hiz,his,hib,hzs⟩:=desc_dev;have Hi:=hid hi;have Hz0:=hid hiz;have Hz1:=hid his;have Hz2:=hid hib;have HN2:=hid (show i0.bytes * n≤281474976710656 from Nat.le_trans (Nat.mul_le_mul hib hn) (by decide));have HM:=hid (show n≤maxLen by unfold maxLen;omega)
 clear h hn hz hi hiz his hib hzs
 go_enter Tryz.func95,Tryz.ntmps95
 go_wp2_with (at_make;refine wpList_make_own _ rfl _ _ 22 rfl w.heap.size 58 i0 z0 5 Tryz.underlying22 Hi.out Hz0.out Hz1.out .i64 .i64 _ n rfl rfl rfl HN2.out HM.out (Nat.le_refl _) ?_;intro w0 hown0 hgrow0;have B0:=hid (show Below w.heap.size w w0 from (Below.refl _ _).grown hgrow0 (Nat.le_refl _) (fun _ h=>by cases h));have O0:=hid (show ROwn (devR.nf w.heap.size) w0 w.heap.size 58 _ [] from ⟨[],hown0,rfl⟩);clear hown0 hgrow0)
 go_loopw [5,13] (fun l i wr=>∃k:Nat,i=.int .i64 k∧k≤n∧ROwn (devR.nf w.heap.size) wr w.heap.size 58 l (xs.take k)∧Below w.heap.size w wr) (fun _ i _=>match i with| .int _ y=>(n - y).toNat|_=>0)
 case atStart=>exact ⟨0,rfl,by omega,O0.out,B0.out⟩
 case round=>
  obtain ⟨k,rfl,hk,hown,hb⟩:=hrel;have OW:=hid hown;have Y1:=hid hb;obtain ⟨RA,rc,hsh⟩:=hown.shape;have LT:=hid (show (xs.take k).length=k by rw [List.length_take,HL.out];omega);rw [LT.out] at hsh;subst hsh;clear hown hb;rename World=>w3
  by_cases hlt:k<n
  rotate_left
  · have lt2:¬(k:Int)<(n:Int):=by omega
    have ON:=hid (show ROwn (devR.nf w.heap.size) w3 w.heap.size 58 (.slice RA k rc) xs by have:=OW.out;rwa [List.take_of_length_le (by rw [HL.out];omega)] at this);go_wp2;go_ret;exact ⟨⟨RA,_,rc⟩,rfl,ON.out,Y1.out⟩
  have lt2:(k:Int)<(n:Int):=by omega
  have hkx:k<xs.length:=by rw [HL.out];exact hlt
  have TK:=hid (show xs.take (k+1)=xs.take k++[xs.getD k DevV.zero] by rw [List.take_succ_eq_append_getElem hkx];simp [List.getD,hkx]);obtain ⟨b0,o0,vs,rfl,_,hb0,hvs,r0⟩:=vAi H.out k hlt DevV.zero;have hvs:vs=vGt (xs.getD k DevV.zero):=hvs;subst hvs;have bz1:=HZ.out k hlt;have R1:=vAb r0 (Y1.out.block b0 hb0);have CP:=hid (fun (w':World) (hb:Below w.heap.size w w')=>copy_dev (xs.getD k DevV.zero) w' bz1)
  generalize xs.getD k DevV.zero=X at *;have d0:=R1 0 _ rfl;have d1:=R1 1 _ rfl;have d2:=R1 2 _ rfl;have d3:=R1 3 _ rfl;have d4:=R1 4 _ rfl;simp only [Nat.add_zero] at d0;rw [show o0+k * devR.n=o0+k * 5 from rfl] at d0 d1 d2 d3 d4;clear r0 R1 bz1 hkx
  go_wp2_with (first
   |(go_at_call 96;(with_reducible refine (CP.out _ (Y1.out.trans ((vAc w3 _).mono Y1.out.size))).mono ?_);rintro e w5 ⟨rfl,hb⟩;have B5:=hid hb;have Y5:=hid (vAa (Y1.out.trans ((vAc w3 (.cells #[.int .i64 X.row,.int .i64 X.prio,.string (str X.name),.int .u64 X.mac,.int .u32 X.vtep] 58)).mono Y1.out.size)) hb);have O5:=hid ((OW.out.below (vAc w3 (.cells #[.int .i64 X.row,.int .i64 X.prio,.string (str X.name),.int .u64 X.mac,.int .u32 X.vtep] 58))).below hb);clear hb)
   |(at_builtin;refine vDv (devR.nf w.heap.size) rfl (.tmp 17) (.tmp 21) 22 58 Tryz.underlying22 desc_dev (show 0<5 by decide) rfl w.heap.size _ _ O5.out X #[.int .i64 X.row,.int .i64 X.prio,.string (str X.name),.int .u64 X.mac,.int .u32 X.vtep] (NFB (w3.alloc (.cells #[.int .i64 X.row,.int .i64 X.prio,.string (str X.name),.int .u64 X.mac,.int .u32 X.vtep] 58)).heap.size w5) ?hy ?hF ?h1 ?h2 ?hs ?hx ?_;(case hy=>exact (show _=vGt X from rfl));(case hF=>exact fun b hb=>⟨hb.2.1,fun e=>by (have h1:=(OW.out.lt b e).2;have h2:=hb.1;simp at h2;omega)⟩);(case h1=>(have:=LT.out;have:=HN.out;omega));(case h2=>exact Y5.out.size);(case hs=>rfl);(case hx=>rfl);intro v8 w8 o8 b8;obtain ⟨A8,c8,hs8⟩:=o8.shape;rw [show (xs.take k++[X]).length=k+1 by rw [List.length_append,LT.out];rfl] at hs8;subst hs8;have O8:=hid o8;have Y8:=hid (Y5.out.trans b8);clear o8 b8))
  go_roundw
  case rel=>exact ⟨k+1,by simp,by omega,by rw [TK.out];exact O8.out,Y8.out⟩
  case measure=>simp only [];omega
theorem desc_port:Desc Tryz.prog 68 7:=Desc.of (by kernel_rfl)
theorem each_port (A:Option Addr) (n c:Nat) (xs:List PortV) (w:World) (h:RSl portR w (vAp w) A n c xs) (hn:n≤200) (hz:∀k,k<n→(xs.getD k PortV.zero).tagged.length≤100∧(xs.getD k PortV.zero).name.length≤140737488351232):Calls Tryz.prog 97 #[.slice A n c,.func (.func 98) #[] #[]] w (GotO portR 68 xs w):=by
 have hle:=h.le;have hcap:=h.cap;have HL:=hid h.len;have H:=hid h;have HN:=hid hn;have HZ:=hid hz;obtain ⟨i0,z0,hi,hiz,his,hib,hzs⟩:=desc_port;have Hi:=hid hi;have Hz0:=hid hiz;have Hz1:=hid his;have Hz2:=hid hib;have HN2:=hid (show i0.bytes * n≤281474976710656 from Nat.le_trans (Nat.mul_le_mul hib hn) (by decide));have HM:=hid (show n≤maxLen by unfold maxLen;omega)
 clear h hn hz hi hiz his hib hzs
 go_enter Tryz.func97,Tryz.ntmps97
 go_wp2_with (at_make;refine wpList_make_own _ rfl _ _ 23 rfl w.heap.size 68 i0 z0 7 Tryz.underlying23 Hi.out Hz0.out Hz1.out .i64 .i64 _ n rfl rfl rfl HN2.out HM.out (Nat.le_refl _) ?_;intro w0 hown0 hgrow0;have B0:=hid (show Below w.heap.size w w0 from (Below.refl _ _).grown hgrow0 (Nat.le_refl _) (fun _ h=>by cases h));have O0:=hid (show ROwn (portR.nf w.heap.size) w0 w.heap.size 68 _ [] from ⟨[],hown0,rfl⟩);clear hown0 hgrow0)
 go_loopw [5,13] (fun l i wr=>∃k:Nat,i=.int .i64 k∧k≤n∧ROwn (portR.nf w.heap.size) wr w.heap.size 68 l (xs.take k)∧Below w.heap.size w wr) (fun _ i _=>match i with| .int _ y=>(n - y).toNat|_=>0)
 case atStart=>exact ⟨0,rfl,by omega,O0.out,B0.out⟩
 case round=>
  obtain ⟨k,rfl,hk,hown,hb⟩:=hrel;have OW:=hid hown;have Y1:=hid hb;obtain ⟨RA,rc,hsh⟩:=hown.shape;have LT:=hid (show (xs.take k).length=k by rw [List.length_take,HL.out];omega);rw [LT.out] at hsh;subst hsh;clear hown hb;rename World=>w3
  by_cases hlt:k<n
  rotate_left
  · have lt2:¬(k:Int)<(n:Int):=by omega
    have ON:=hid (show ROwn (portR.nf w.heap.size) w3 w.heap.size 68 (.slice RA k rc) xs by have:=OW.out;rwa [List.take_of_length_le (by rw [HL.out];omega)] at this);go_wp2;go_ret;exact ⟨⟨RA,_,rc⟩,rfl,ON.out,Y1.out⟩
  have lt2:(k:Int)<(n:Int):=by omega
  have hkx:k<xs.length:=by rw [HL.out];exact hlt
  have TK:=hid (show xs.take (k+1)=xs.take k++[xs.getD k PortV.zero] by rw [List.take_succ_eq_append_getElem hkx];simp [List.getD,hkx]);obtain ⟨b0,o0,vs,rfl,_,hb0,⟨s,rfl,l1⟩,r0⟩:=vAi H.out k hlt PortV.zero;obtain ⟨bz1,bz2⟩:=HZ.out k hlt;have R1:=vAb r0 (Y1.out.block b0 hb0);have CP:=hid (fun (w':World) (hb:Below w.heap.size w w')=>copy_port (xs.getD k PortV.zero) s w' (vAn l1 hb) bz1 bz2)
  generalize xs.getD k PortV.zero=X at *;have d0:=R1 0 _ rfl;have d1:=R1 1 _ rfl;have d2:=R1 2 _ rfl;have d3:=R1 3 _ rfl;have d4:=R1 4 _ rfl;have d5:=R1 5 _ rfl;have d6:=R1 6 _ rfl;simp only [Nat.add_zero] at d0;rw [show o0+k * portR.n=o0+k * 7 from rfl] at d0 d1 d2 d3 d4 d5 d6;clear r0 R1 l1 bz1 bz2 hkx
  go_wp2_with (first
   |(go_at_call 98;(with_reducible refine (CP.out _ (Y1.out.trans ((vAc w3 _).mono Y1.out.size))).mono ?_);rintro e w5 ⟨u,rfl,hr1,hb⟩;have B5:=hid hb;have Y5:=hid (vAa (Y1.out.trans ((vAc w3 (.cells #[.int .i64 X.row,.int .i64 X.dev,.int .i64 X.native,.int .i64 X.cost,.int .i64 X.link,.string (str X.name),.slice s.A s.n s.c] 68)).mono Y1.out.size)) hb);have O5:=hid ((OW.out.below (vAc w3 (.cells #[.int .i64 X.row,.int .i64 X.dev,.int .i64 X.native,.int .i64 X.cost,.int .i64 X.link,.string (str X.name),.slice s.A s.n s.c] 68))).below hb);have RR1:=hid hr1;clear hb hr1)
   |(at_builtin;refine vDv (portR.nf w.heap.size) rfl (.tmp 17) (.tmp 21) 23 68 Tryz.underlying23 desc_port (show 0<7 by decide) rfl w.heap.size _ _ O5.out X #[.int .i64 X.row,.int .i64 X.dev,.int .i64 X.native,.int .i64 X.cost,.int .i64 X.link,.string (str X.name),.slice u.A u.n u.c] (NFB (w3.alloc (.cells #[.int .i64 X.row,.int .i64 X.dev,.int .i64 X.native,.int .i64 X.cost,.int .i64 X.link,.string (str X.name),.slice s.A s.n s.c] 68)).heap.size w5) ?hy ?hF ?h1 ?h2 ?hs ?hx ?_;(case hy=>exact ⟨u,rfl,RR1.out.keep (fun _ _=>rfl) (fun b hb=>⟨hb,hb.low (by have:=Y1.out.size;simp;omega)⟩)⟩);(case hF=>exact fun b hb=>⟨hb.2.1,fun e=>by (have h1:=(OW.out.lt b e).2;have h2:=hb.1;simp at h2;omega)⟩);(case h1=>(have:=LT.out;have:=HN.out;omega));(case h2=>exact Y5.out.size);(case hs=>rfl);(case hx=>rfl);intro v8 w8 o8 b8;obtain ⟨A8,c8,hs8⟩:=o8.shape;rw [show (xs.take k++[X]).length=k+1 by rw [List.length_append,LT.out];rfl] at hs8;subst hs8;have O8:=hid o8;have Y8:=hid (Y5.out.trans b8);clear o8 b8))
  go_roundw
  case rel=>exact ⟨k+1,by simp,by omega,by rw [TK.out];exact O8.out,Y8.out⟩
  case measure=>simp only [];omega
theorem desc_dom:Desc Tryz.prog 54 6:=Desc.of (by kernel_rfl)
theorem each_dom (A:Option Addr) (n c:Nat) (xs:List DomV) (w:World) (h:RSl domR w (vAp w) A n c xs) (hn:n≤200) (hz:∀k,k<n→(xs.getD k DomV.zero).peers.length≤100):Calls Tryz.prog 100 #[.slice A n c,.func (.func 101) #[] #[]] w (GotO domR 54 xs w):=by
 have hle:=h.le;have hcap:=h.cap;have HL:=hid h.len;have H:=hid h;have HN:=hid hn;have HZ:=hid hz;obtain ⟨i0,z0,hi,hiz,his,hib,hzs⟩:=desc_dom;have Hi:=hid hi;have Hz0:=hid hiz;have Hz1:=hid his;have Hz2:=hid hib;have HN2:=hid (show i0.bytes * n≤281474976710656 from Nat.le_trans (Nat.mul_le_mul hib hn) (by decide));have HM:=hid (show n≤maxLen by unfold maxLen;omega)
 clear h hn hz hi hiz his hib hzs
 go_enter Tryz.func100,Tryz.ntmps100
 go_wp2_with (at_make;refine wpList_make_own _ rfl _ _ 25 rfl w.heap.size 54 i0 z0 6 Tryz.underlying25 Hi.out Hz0.out Hz1.out .i64 .i64 _ n rfl rfl rfl HN2.out HM.out (Nat.le_refl _) ?_;intro w0 hown0 hgrow0;have B0:=hid (show Below w.heap.size w w0 from (Below.refl _ _).grown hgrow0 (Nat.le_refl _) (fun _ h=>by cases h));have O0:=hid (show ROwn (domR.nf w.heap.size) w0 w.heap.size 54 _ [] from ⟨[],hown0,rfl⟩);clear hown0 hgrow0)
 go_loopw [5,13] (fun l i wr=>∃k:Nat,i=.int .i64 k∧k≤n∧ROwn (domR.nf w.heap.size) wr w.heap.size 54 l (xs.take k)∧Below w.heap.size w wr) (fun _ i _=>match i with| .int _ y=>(n - y).toNat|_=>0)
 case atStart=>exact ⟨0,rfl,by omega,O0.out,B0.out⟩
 case round=>
  obtain ⟨k,rfl,hk,hown,hb⟩:=hrel;have OW:=hid hown;have Y1:=hid hb;obtain ⟨RA,rc,hsh⟩:=hown.shape;have LT:=hid (show (xs.take k).length=k by rw [List.length_take,HL.out];omega);rw [LT.out] at hsh;subst hsh;clear hown hb;rename World=>w3
  by_cases hlt:k<n
  rotate_left
  · have lt2:¬(k:Int)<(n:Int):=by omega
    have ON:=hid (show ROwn (domR.nf w.heap.size) w3 w.heap.size 54 (.slice RA k rc) xs by have:=OW.out;rwa [List.take_of_length_le (by rw [HL.out];omega)] at this);go_wp2;go_ret;exact ⟨⟨RA,_,rc⟩,rfl,ON.out,Y1.out⟩
  have lt2:(k:Int)<(n:Int):=by omega
  have hkx:k<xs.length:=by rw [HL.out];exact hlt
  have TK:=hid (show xs.take (k+1)=xs.take k++[xs.getD k DomV.zero] by rw [List.take_succ_eq_append_getElem hkx];simp [List.getD,hkx]);obtain ⟨b0,o0,vs,rfl,_,hb0,⟨s,rfl,l1⟩,r0⟩:=vAi H.out k hlt DomV.zero;have bz1:=HZ.out k hlt;have R1:=vAb r0 (Y1.out.block b0 hb0);have CP:=hid (fun (w':World) (hb:Below w.heap.size w w')=>copy_dom (xs.getD k DomV.zero) s w' (vAn l1 hb) bz1);generalize xs.getD k DomV.zero=X at *
  have d0:=R1 0 _ rfl;have d1:=R1 1 _ rfl;have d2:=R1 2 _ rfl;have d3:=R1 3 _ rfl;have d4:=R1 4 _ rfl;have d5:=R1 5 _ rfl;simp only [Nat.add_zero] at d0;rw [show o0+k * domR.n=o0+k * 6 from rfl] at d0 d1 d2 d3 d4 d5;clear r0 R1 l1 bz1 hkx
  go_wp2_with (first
   |(go_at_call 101;(with_reducible refine (CP.out _ (Y1.out.trans ((vAc w3 _).mono Y1.out.size))).mono ?_);rintro e w5 ⟨u,rfl,hr1,hb⟩;have B5:=hid hb;have Y5:=hid (vAa (Y1.out.trans ((vAc w3 (.cells #[.int .i64 X.dev,.int .i64 X.vlan,.int .i64 X.vni,.int .i64 X.irb,.int .i64 X.row,.slice s.A s.n s.c] 54)).mono Y1.out.size)) hb);have O5:=hid ((OW.out.below (vAc w3 (.cells #[.int .i64 X.dev,.int .i64 X.vlan,.int .i64 X.vni,.int .i64 X.irb,.int .i64 X.row,.slice s.A s.n s.c] 54))).below hb);have RR1:=hid hr1;clear hb hr1)
   |(at_builtin;refine vDv (domR.nf w.heap.size) rfl (.tmp 17) (.tmp 21) 25 54 Tryz.underlying25 desc_dom (show 0<6 by decide) rfl w.heap.size _ _ O5.out X #[.int .i64 X.dev,.int .i64 X.vlan,.int .i64 X.vni,.int .i64 X.irb,.int .i64 X.row,.slice u.A u.n u.c] (NFB (w3.alloc (.cells #[.int .i64 X.dev,.int .i64 X.vlan,.int .i64 X.vni,.int .i64 X.irb,.int .i64 X.row,.slice s.A s.n s.c] 54)).heap.size w5) ?hy ?hF ?h1 ?h2 ?hs ?hx ?_;(case hy=>exact ⟨u,rfl,RR1.out.keep (fun _ _=>rfl) (fun b hb=>⟨hb,hb.low (by have:=Y1.out.size;simp;omega)⟩)⟩);(case hF=>exact fun b hb=>⟨hb.2.1,fun e=>by (have h1:=(OW.out.lt b e).2;have h2:=hb.1;simp at h2;omega)⟩);(case h1=>(have:=LT.out;have:=HN.out;omega));(case h2=>exact Y5.out.size);(case hs=>rfl);(case hx=>rfl);intro v8 w8 o8 b8;obtain ⟨A8,c8,hs8⟩:=o8.shape;rw [show (xs.take k++[X]).length=k+1 by rw [List.length_append,LT.out];rfl] at hs8;subst hs8;have O8:=hid o8;have Y8:=hid (Y5.out.trans b8);clear o8 b8))
  go_roundw
  case rel=>exact ⟨k+1,by simp,by omega,by rw [TK.out];exact O8.out,Y8.out⟩
  case measure=>simp only [];omega
theorem desc_flood:Desc Tryz.prog 71 4:=Desc.of (by kernel_rfl)
theorem each_flood (A:Option Addr) (n c:Nat) (xs:List FloodV) (w:World) (h:RSl floodR w (vAp w) A n c xs) (hn:n≤200) (hz:∀k,k<n→(xs.getD k FloodV.zero).addrs.length≤100):Calls Tryz.prog 103 #[.slice A n c,.func (.func 104) #[] #[]] w (GotO floodR 71 xs w):=by
 have hle:=h.le;have hcap:=h.cap;have HL:=hid h.len;have H:=hid h;have HN:=hid hn;have HZ:=hid hz;obtain ⟨i0,z0,hi,hiz,his,hib,hzs⟩:=desc_flood;have Hi:=hid hi;have Hz0:=hid hiz;have Hz1:=hid his;have Hz2:=hid hib;have HN2:=hid (show i0.bytes * n≤281474976710656 from Nat.le_trans (Nat.mul_le_mul hib hn) (by decide));have HM:=hid (show n≤maxLen by unfold maxLen;omega)
 clear h hn hz hi hiz his hib hzs
 go_enter Tryz.func103,Tryz.ntmps103
 go_wp2_with (at_make;refine wpList_make_own _ rfl _ _ 27 rfl w.heap.size 71 i0 z0 4 Tryz.underlying27 Hi.out Hz0.out Hz1.out .i64 .i64 _ n rfl rfl rfl HN2.out HM.out (Nat.le_refl _) ?_;intro w0 hown0 hgrow0;have B0:=hid (show Below w.heap.size w w0 from (Below.refl _ _).grown hgrow0 (Nat.le_refl _) (fun _ h=>by cases h));have O0:=hid (show ROwn (floodR.nf w.heap.size) w0 w.heap.size 71 _ [] from ⟨[],hown0,rfl⟩);clear hown0 hgrow0)
 go_loopw [5,13] (fun l i wr=>∃k:Nat,i=.int .i64 k∧k≤n∧ROwn (floodR.nf w.heap.size) wr w.heap.size 71 l (xs.take k)∧Below w.heap.size w wr) (fun _ i _=>match i with| .int _ y=>(n - y).toNat|_=>0)
 case atStart=>exact ⟨0,rfl,by omega,O0.out,B0.out⟩
 case round=>
  obtain ⟨k,rfl,hk,hown,hb⟩:=hrel;have OW:=hid hown;have Y1:=hid hb;obtain ⟨RA,rc,hsh⟩:=hown.shape;have LT:=hid (show (xs.take k).length=k by rw [List.length_take,HL.out];omega);rw [LT.out] at hsh;subst hsh;clear hown hb;rename World=>w3
  by_cases hlt:k<n
  rotate_left
  · have lt2:¬(k:Int)<(n:Int):=by omega
    have ON:=hid (show ROwn (floodR.nf w.heap.size) w3 w.heap.size 71 (.slice RA k rc) xs by have:=OW.out;rwa [List.take_of_length_le (by rw [HL.out];omega)] at this);go_wp2;go_ret;exact ⟨⟨RA,_,rc⟩,rfl,ON.out,Y1.out⟩
  have lt2:(k:Int)<(n:Int):=by omega
  have hkx:k<xs.length:=by rw [HL.out];exact hlt
  have TK:=hid (show xs.take (k+1)=xs.take k++[xs.getD k FloodV.zero] by rw [List.take_succ_eq_append_getElem hkx];simp [List.getD,hkx]);obtain ⟨b0,o0,vs,rfl,_,hb0,⟨s,rfl,l1⟩,r0⟩:=vAi H.out k hlt FloodV.zero;have bz1:=HZ.out k hlt;have R1:=vAb r0 (Y1.out.block b0 hb0);have CP:=hid (fun (w':World) (hb:Below w.heap.size w w')=>copy_flood (xs.getD k FloodV.zero) s w' (vAn l1 hb) bz1)
  generalize xs.getD k FloodV.zero=X at *;have d0:=R1 0 _ rfl;have d1:=R1 1 _ rfl;have d2:=R1 2 _ rfl;have d3:=R1 3 _ rfl;simp only [Nat.add_zero] at d0;rw [show o0+k * floodR.n=o0+k * 4 from rfl] at d0 d1 d2 d3;clear r0 R1 l1 bz1 hkx
  go_wp2_with (first
   |(go_at_call 104;(with_reducible refine (CP.out _ (Y1.out.trans ((vAc w3 _).mono Y1.out.size))).mono ?_);rintro e w5 ⟨u,rfl,hr1,hb⟩;have B5:=hid hb;have Y5:=hid (vAa (Y1.out.trans ((vAc w3 (.cells #[.int .i64 X.row,.int .i64 X.dev,.int .i64 X.vni,.slice s.A s.n s.c] 71)).mono Y1.out.size)) hb);have O5:=hid ((OW.out.below (vAc w3 (.cells #[.int .i64 X.row,.int .i64 X.dev,.int .i64 X.vni,.slice s.A s.n s.c] 71))).below hb);have RR1:=hid hr1;clear hb hr1)
   |(at_builtin;refine vDv (floodR.nf w.heap.size) rfl (.tmp 17) (.tmp 21) 27 71 Tryz.underlying27 desc_flood (show 0<4 by decide) rfl w.heap.size _ _ O5.out X #[.int .i64 X.row,.int .i64 X.dev,.int .i64 X.vni,.slice u.A u.n u.c] (NFB (w3.alloc (.cells #[.int .i64 X.row,.int .i64 X.dev,.int .i64 X.vni,.slice s.A s.n s.c] 71)).heap.size w5) ?hy ?hF ?h1 ?h2 ?hs ?hx ?_;(case hy=>exact ⟨u,rfl,RR1.out.keep (fun _ _=>rfl) (fun b hb=>⟨hb,hb.low (by have:=Y1.out.size;simp;omega)⟩)⟩);(case hF=>exact fun b hb=>⟨hb.2.1,fun e=>by (have h1:=(OW.out.lt b e).2;have h2:=hb.1;simp at h2;omega)⟩);(case h1=>(have:=LT.out;have:=HN.out;omega));(case h2=>exact Y5.out.size);(case hs=>rfl);(case hx=>rfl);intro v8 w8 o8 b8;obtain ⟨A8,c8,hs8⟩:=o8.shape;rw [show (xs.take k++[X]).length=k+1 by rw [List.length_append,LT.out];rfl] at hs8;subst hs8;have O8:=hid o8;have Y8:=hid (Y5.out.trans b8);clear o8 b8))
  go_roundw
  case rel=>exact ⟨k+1,by simp,by omega,by rw [TK.out];exact O8.out,Y8.out⟩
  case measure=>simp only [];omega
theorem desc_vrf:Desc Tryz.prog 74 5:=Desc.of (by kernel_rfl)
theorem each_vrf (A:Option Addr) (n c:Nat) (xs:List VrfV) (w:World) (h:RSl vrfR w (vAp w) A n c xs) (hn:n≤200) (hz:∀k,k<n→(xs.getD k VrfV.zero).imports.length≤100∧(xs.getD k VrfV.zero).exports.length≤100∧(xs.getD k VrfV.zero).name.length≤140737488351232):Calls Tryz.prog 105 #[.slice A n c,.func (.func 106) #[] #[]] w (GotO vrfR 74 xs w):=by
 have hle:=h.le;have hcap:=h.cap;have HL:=hid h.len;have H:=hid h;have HN:=hid hn;have HZ:=hid hz;obtain ⟨i0,z0,hi,hiz,his,hib,hzs⟩:=desc_vrf;have Hi:=hid hi;have Hz0:=hid hiz;have Hz1:=hid his;have Hz2:=hid hib;have HN2:=hid (show i0.bytes * n≤281474976710656 from Nat.le_trans (Nat.mul_le_mul hib hn) (by decide));have HM:=hid (show n≤maxLen by unfold maxLen;omega)
 clear h hn hz hi hiz his hib hzs
 go_enter Tryz.func105,Tryz.ntmps105
 go_wp2_with (at_make;refine wpList_make_own _ rfl _ _ 28 rfl w.heap.size 74 i0 z0 5 Tryz.underlying28 Hi.out Hz0.out Hz1.out .i64 .i64 _ n rfl rfl rfl HN2.out HM.out (Nat.le_refl _) ?_;intro w0 hown0 hgrow0;have B0:=hid (show Below w.heap.size w w0 from (Below.refl _ _).grown hgrow0 (Nat.le_refl _) (fun _ h=>by cases h));have O0:=hid (show ROwn (vrfR.nf w.heap.size) w0 w.heap.size 74 _ [] from ⟨[],hown0,rfl⟩);clear hown0 hgrow0)
 go_loopw [5,13] (fun l i wr=>∃k:Nat,i=.int .i64 k∧k≤n∧ROwn (vrfR.nf w.heap.size) wr w.heap.size 74 l (xs.take k)∧Below w.heap.size w wr) (fun _ i _=>match i with| .int _ y=>(n - y).toNat|_=>0)
 case atStart=>exact ⟨0,rfl,by omega,O0.out,B0.out⟩
 case round=>
  obtain ⟨k,rfl,hk,hown,hb⟩:=hrel;have OW:=hid hown;have Y1:=hid hb;obtain ⟨RA,rc,hsh⟩:=hown.shape;have LT:=hid (show (xs.take k).length=k by rw [List.length_take,HL.out];omega);rw [LT.out] at hsh;subst hsh;clear hown hb;rename World=>w3
  by_cases hlt:k<n
  rotate_left
  · have lt2:¬(k:Int)<(n:Int):=by omega
    have ON:=hid (show ROwn (vrfR.nf w.heap.size) w3 w.heap.size 74 (.slice RA k rc) xs by have:=OW.out;rwa [List.take_of_length_le (by rw [HL.out];omega)] at this);go_wp2;go_ret;exact ⟨⟨RA,_,rc⟩,rfl,ON.out,Y1.out⟩
  have lt2:(k:Int)<(n:Int):=by omega
  have hkx:k<xs.length:=by rw [HL.out];exact hlt
  have TK:=hid (show xs.take (k+1)=xs.take k++[xs.getD k VrfV.zero] by rw [List.take_succ_eq_append_getElem hkx];simp [List.getD,hkx]);obtain ⟨b0,o0,vs,rfl,_,hb0,⟨s,t,rfl,l1,l2⟩,r0⟩:=vAi H.out k hlt VrfV.zero;obtain ⟨bz1,bz2,bz3⟩:=HZ.out k hlt;have R1:=vAb r0 (Y1.out.block b0 hb0);have CP:=hid (fun (w':World) (hb:Below w.heap.size w w')=>copy_vrf (xs.getD k VrfV.zero) s t w' (vAn l1 hb) bz1 (vAn l2 hb) bz2 bz3)
  generalize xs.getD k VrfV.zero=X at *;have d0:=R1 0 _ rfl;have d1:=R1 1 _ rfl;have d2:=R1 2 _ rfl;have d3:=R1 3 _ rfl;have d4:=R1 4 _ rfl;simp only [Nat.add_zero] at d0;rw [show o0+k * vrfR.n=o0+k * 5 from rfl] at d0 d1 d2 d3 d4;clear r0 R1 l1 l2 bz1 bz2 bz3 hkx
  go_wp2_with (first
   |(go_at_call 106;(with_reducible refine (CP.out _ (Y1.out.trans ((vAc w3 _).mono Y1.out.size))).mono ?_);rintro e w5 ⟨u1,u2,rfl,hr1,hr2,hb⟩;have B5:=hid hb;have Y5:=hid (vAa (Y1.out.trans ((vAc w3 (.cells #[.int .i64 X.row,.int .i64 X.dev,.string (str X.name),.slice s.A s.n s.c,.slice t.A t.n t.c] 74)).mono Y1.out.size)) hb);have O5:=hid ((OW.out.below (vAc w3 (.cells #[.int .i64 X.row,.int .i64 X.dev,.string (str X.name),.slice s.A s.n s.c,.slice t.A t.n t.c] 74))).below hb);have RR1:=hid hr1;have RR2:=hid hr2;clear hb hr1 hr2)
   |(at_builtin;refine vDv (vrfR.nf w.heap.size) rfl (.tmp 17) (.tmp 21) 28 74 Tryz.underlying28 desc_vrf (show 0<5 by decide) rfl w.heap.size _ _ O5.out X #[.int .i64 X.row,.int .i64 X.dev,.string (str X.name),.slice u1.A u1.n u1.c,.slice u2.A u2.n u2.c] (NFB (w3.alloc (.cells #[.int .i64 X.row,.int .i64 X.dev,.string (str X.name),.slice s.A s.n s.c,.slice t.A t.n t.c] 74)).heap.size w5) ?hy ?hF ?h1 ?h2 ?hs ?hx ?_;(case hy=>exact ⟨u1,u2,rfl,RR1.out.keep (fun _ _=>rfl) (fun b hb=>⟨hb,hb.low (by have:=Y1.out.size;simp;omega)⟩),RR2.out.keep (fun _ _=>rfl) (fun b hb=>⟨hb,hb.low (by have:=Y1.out.size;simp;omega)⟩)⟩);(case hF=>exact fun b hb=>⟨hb.2.1,fun e=>by (have h1:=(OW.out.lt b e).2;have h2:=hb.1;simp at h2;omega)⟩);(case h1=>(have:=LT.out;have:=HN.out;omega));(case h2=>exact Y5.out.size);(case hs=>rfl);(case hx=>rfl);intro v8 w8 o8 b8;obtain ⟨A8,c8,hs8⟩:=o8.shape;rw [show (xs.take k++[X]).length=k+1 by rw [List.length_append,LT.out];rfl] at hs8;subst hs8;have O8:=hid o8;have Y8:=hid (Y5.out.trans b8);clear o8 b8))
  go_roundw
  case rel=>exact ⟨k+1,by simp,by omega,by rw [TK.out];exact O8.out,Y8.out⟩
  case measure=>simp only [];omega
open Go.ChangeShapes Go.WideShapes Go.ChangeAt Go.RowKit
theorem weights_all {H:Type} {P:Program} {e:TypeId} {n:Nat}:∀{l:List (DataW H)} {d:DataW H},d∈l→n∈d.weights P e→n∈DataW.weightsAll P e l
 |x :: r,d,hd,hn=>by
  rw [DataW.weightsAll]
  rcases List.mem_cons.1 hd with h|h
  · subst h;exact List.mem_append.2 (.inl hn)
  · exact List.mem_append.2 (.inr (weights_all h hn))
theorem vBz {H:Type} {enc:TypeId×Value→H} {P:Program} {w:World} {sp:Nat→Bool} {held:Bool} {fuel:Nat} {t:TypeId} {cs:List Value} {x:DataW H×List MemPlace} {fs:Array Field} (ht:P.underlying t=some (.struct fs)) (h:DataW.trod enc P w 0 sp held fuel t cs=some x) (j:Nat) (f:Field) (hf:fs[j]?=some f):
 ∃(y:DataW H×List MemPlace) (n:Nat),DataW.trod enc P w 0 sp held n f.type ((cs.drop f.offset).take (P.cellsOf f.type))=some y∧∀k∈y.1.weights P f.type,k∈x.1.weights P t:=by
 obtain ⟨xs,n,_,rfl,hl,hlen,hg⟩:=DataW.trod_struct ht h
 have hj:j<xs.length:=by rw [hlen];exact (Array.getElem?_eq_some_iff.1 hf).1
 refine ⟨xs[j],n,(hg j f hf).trans (List.getElem?_eq_getElem hj),fun k hk=>?_⟩
 show k∈DataW.weights P t (.agg (xs.map (·.1)))
 rw [DataW.weights,ht];refine DataW.weights_mem_each (j:=j) (t:=f.type) (d:=xs[j].1) ?_ ?_ k hk
 · rw [List.getElem?_map,Array.getElem?_toList,hf];rfl
 · rw [List.getElem?_map,List.getElem?_eq_getElem hj];rfl
theorem vGq {H:Type} {enc:TypeId×Value→H} {P:Program} {w:World} {sp:Nat→Bool} {held:Bool} {fuel:Nat} {t:TypeId} {cs:List Value} {x:DataW H×List MemPlace} {fs:Array Field} (ht:P.underlying t=some (.struct fs)) (h:DataW.trod enc P w 0 sp held fuel t cs=some x) (j:Nat) (f:Field) (hf:fs[j]?=some f) (hs:P.underlying f.type=some .string) (hc:P.cellsOf f.type=1)
 (s:ByteArray) (hv:cs[f.offset]?=some (.string s)):s.size∈x.1.weights P t:=by
 obtain ⟨y,n,hy,hw⟩:=vBz ht h j f hf;obtain ⟨s',hc',rfl,_⟩:=DataW.trod_string hs hy;rw [hc] at hc';have e:=vAg hc';rw [hv] at e
 injection e with e
 injection e with e
 subst e;refine hw _ ?_;rw [DataW.weights];simp
theorem vEe {H:Type} {enc:TypeId×Value→H} {P:Program} {w:World} {sp:Nat→Bool} {held:Bool} {fuel:Nat} {t e:TypeId} {A:Option Addr} {n c:Nat} {x:DataW H×List MemPlace} (ht:P.underlying t=some (.slice e)) (h:DataW.trod enc P w 0 sp held fuel t [.slice A n c]=some x) (k:Nat) (hk:k<n):
 ∃(a:Addr) (cs:List Value) (y:DataW H×List MemPlace) (m:Nat),A=some a∧w.cells? 0 (a.add (k * P.cellsOf e)) (P.cellsOf e)=some cs∧DataW.trod enc P w 0 sp held m e cs=some y∧∀i∈y.1.weights P e,i∈x.1.weights P t:=by
 rcases Go.Deep.open_slice ht h with ⟨h0,_⟩|⟨a,len,cap,m,f,D,Pl,hcs,_,hl,hm,hmm,rfl,hx⟩
 · injection h0 with h0
   injection h0 with _ h1
   omega
 · injection hcs with hcs
   injection hcs with h1 h2 h3
   subst h1 h2 h3
   have hlm:n≤m:=by rw [hmm];split<;>omega
   obtain ⟨cs',g1,g2⟩:=hx k (by omega);refine ⟨a,cs',_,_,rfl,g1,g2,fun i hi=>?_⟩
   show i∈DataW.weights P t (.slice _ _)
   rw [DataW.weights,ht];refine List.mem_cons.2 (.inr (List.mem_append.2 (.inl ?_)));exact weights_all (List.mem_map.2 ⟨k,List.mem_range.2 hk,rfl⟩) hi
structure NmSz (N:NV):Prop where
 dv:∀k,k<N.devices.length→(N.devices.getD k DevV.zero).name.length≤140737488351232
 pt:∀k,k<N.ports.length→(N.ports.getD k PortV.zero).name.length≤140737488351232
 vr:∀k,k<N.vrfs.length→(N.vrfs.getD k VrfV.zero).name.length≤140737488351232
theorem names_dev {H:Type} {enc:TypeId×Value→H} {w:World} {sp:Nat→Bool} {held:Bool} {fuel:Nat} {A:Option Addr} {n c:Nat} {x:DataW H×List MemPlace} (h:DataW.trod enc Tryz.prog w 0 sp held fuel 22 [.slice A n c]=some x) (hw:∀i∈x.1.weights Tryz.prog 22,i≤reachBytes) (xs:List DevV) (hr:RSl devR w (vAp w) A n c xs) (k:Nat) (hk:k<xs.length):(xs.getD k DevV.zero).name.length≤140737488351232:=by
 have hkn:k<n:=by have:=hr.len;omega
 obtain ⟨a,cs,y,m,rfl,h1,h2,h3⟩:=vEe Tryz.underlying22 h k hkn;obtain ⟨b,off,vs,e,_,_,hvs,r0⟩:=vAi hr k hkn DevV.zero;have hvs:vs=vGt (xs.getD k DevV.zero):=hvs;subst hvs
 injection e with e
 subst e;generalize xs.getD k DevV.zero=X at *;rw [vFs] at h1;have d:=r0 2 (.string (str X.name)) rfl;have hc:=(World.cells?_some h1).2.2 2 (by omega);rw [vBu,vBu] at hc;rw [show off+k * devR.n=off+k * 5 from rfl] at d;rw [d] at hc;have hs:=vGq Tryz.underlying58 h2 2 _ rfl Tryz.underlying9 vCa (str X.name) (by show cs[2]?=_;exact hc.symm)
 have:=hw _ (h3 _ hs)
 rw [vBa] at this;exact this
theorem names_port {H:Type} {enc:TypeId×Value→H} {w:World} {sp:Nat→Bool} {held:Bool} {fuel:Nat} {A:Option Addr} {n c:Nat} {x:DataW H×List MemPlace} (h:DataW.trod enc Tryz.prog w 0 sp held fuel 23 [.slice A n c]=some x) (hw:∀i∈x.1.weights Tryz.prog 23,i≤reachBytes) (xs:List PortV) (hr:RSl portR w (vAp w) A n c xs) (k:Nat) (hk:k<xs.length):(xs.getD k PortV.zero).name.length≤140737488351232:=by
 have hkn:k<n:=by have:=hr.len;omega
 obtain ⟨a,cs,y,m,rfl,h1,h2,h3⟩:=vEe Tryz.underlying23 h k hkn;obtain ⟨b,off,vs,e,_,_,⟨s,rfl,_⟩,r0⟩:=vAi hr k hkn PortV.zero
 injection e with e
 subst e;generalize xs.getD k PortV.zero=X at *;rw [vGo] at h1;have d:=r0 5 (.string (str X.name)) rfl;have hc:=(World.cells?_some h1).2.2 5 (by omega);rw [vBu,vBu] at hc;rw [show off+k * portR.n=off+k * 7 from rfl] at d;rw [d] at hc;have hs:=vGq Tryz.underlying68 h2 5 _ rfl Tryz.underlying9 vCa (str X.name) (by show cs[5]?=_;exact hc.symm)
 have:=hw _ (h3 _ hs)
 rw [vBa] at this;exact this
theorem names_vrf {H:Type} {enc:TypeId×Value→H} {w:World} {sp:Nat→Bool} {held:Bool} {fuel:Nat} {A:Option Addr} {n c:Nat} {x:DataW H×List MemPlace} (h:DataW.trod enc Tryz.prog w 0 sp held fuel 28 [.slice A n c]=some x) (hw:∀i∈x.1.weights Tryz.prog 28,i≤reachBytes) (xs:List VrfV) (hr:RSl vrfR w (vAp w) A n c xs) (k:Nat) (hk:k<xs.length):(xs.getD k VrfV.zero).name.length≤140737488351232:=by
 have hkn:k<n:=by have:=hr.len;omega
 obtain ⟨a,cs,y,m,rfl,h1,h2,h3⟩:=vEe Tryz.underlying28 h k hkn;obtain ⟨b,off,vs,e,_,_,⟨s,t,rfl,_,_⟩,r0⟩:=vAi hr k hkn VrfV.zero
 injection e with e
 subst e;generalize xs.getD k VrfV.zero=X at *;rw [vIb] at h1;have d:=r0 2 (.string (str X.name)) rfl;have hc:=(World.cells?_some h1).2.2 2 (by omega);rw [vBu,vBu] at hc;rw [show off+k * vrfR.n=off+k * 5 from rfl] at d;rw [d] at hc;have hs:=vGq Tryz.underlying74 h2 2 _ rfl Tryz.underlying9 vCa (str X.name) (by show cs[2]?=_;exact hc.symm)
 have:=hw _ (h3 _ hs)
 rw [vBa] at this;exact this
theorem net_sz {H:Type} {enc:TypeId×Value→H} {w:World} {sp:Nat→Bool} {held:Bool} {fuel:Nat} {x:DataW H×List MemPlace} (N:NV) (S:NSl3) (h:DataW.trod enc Tryz.prog w 0 sp held fuel 31 (vBk S)=some x) (hw:∀i∈x.1.weights Tryz.prog 31,i≤reachBytes) (hr:NRead w (vAp w) N S):NmSz N:=by
 refine ⟨fun k hk=>?_,fun k hk=>?_,fun k hk=>?_⟩
 · obtain ⟨y,n,hy,hwy⟩:=vBz Tryz.underlying31 h 0 _ rfl
   have hy2:DataW.trod enc Tryz.prog w 0 sp held n 22 (((vBk S).drop 0).take (Tryz.prog.cellsOf 22))=some y:=hy;rw [vGn] at hy2;exact names_dev hy2 (fun i hi=>hw i (hwy i hi)) N.devices hr.dv k hk
 · obtain ⟨y,n,hy,hwy⟩:=vBz Tryz.underlying31 h 1 _ rfl
   have hy2:DataW.trod enc Tryz.prog w 0 sp held n 23 (((vBk S).drop 1).take (Tryz.prog.cellsOf 23))=some y:=hy;rw [vIm] at hy2;exact names_port hy2 (fun i hi=>hw i (hwy i hi)) N.ports hr.pt k hk
 · obtain ⟨y,n,hy,hwy⟩:=vBz Tryz.underlying31 h 6 _ rfl
   have hy2:DataW.trod enc Tryz.prog w 0 sp held n 28 (((vBk S).drop 6).take (Tryz.prog.cellsOf 28))=some y:=hy;rw [ncells_vrfs] at hy2;exact names_vrf hy2 (fun i hi=>hw i (hwy i hi)) N.vrfs hr.vr k hk
end Go.Proofs.YtgmflecelnefcaaGreat
