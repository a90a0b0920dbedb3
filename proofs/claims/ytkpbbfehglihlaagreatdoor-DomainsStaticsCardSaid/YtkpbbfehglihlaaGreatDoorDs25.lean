import Derived.Test.YtkpbbfehglihlaaGreatDoorDs24
import Derived.Test.YtkpbbfehglihlaaGreatDoorDs22
set_option maxRecDepth 100000
set_option maxHeartbeats 40000000
namespace Go.Proofs.YtkpbbfehglihlaaGreatDoor
open Go.Lib (hid)
open Go.RowKit
theorem fm_len (ws:List (List UInt8)):(fmV ws).length≤6:=by
 unfold fmV
 by_cases h0:ws=[]
 · rw [if_pos h0];decide
 rw [if_neg h0]
 by_cases h1:kdV (wat ws 0)=1
 · rw [if_pos h1];decide
 rw [if_neg h1]
 by_cases h3:kdV (wat ws 0)=3
 · rw [if_pos h3];decide
 rw [if_neg h3]
 by_cases h4:kdV (wat ws 0)=4
 · rw [if_pos h4];decide
 rw [if_neg h4]
 by_cases h5:kdV (wat ws 0)=5
 · rw [if_pos h5];decide
 rw [if_neg h5]
 by_cases h6:kdV (wat ws 0)=6
 · rw [if_pos h6];decide
 rw [if_neg h6]
 by_cases h7:kdV (wat ws 0)=7
 · rw [if_pos h7];decide
 rw [if_neg h7]
 by_cases h8:kdV (wat ws 0)=8
 · rw [if_pos h8];decide
 rw [if_neg h8]
 by_cases h9:kdV (wat ws 0)=9
 · rw [if_pos h9];decide
 rw [if_neg h9]
 by_cases h2:kdV (wat ws 0)=2
 · rw [if_pos h2]
   by_cases g:ws.length=7∧¬wat ws 4=vAt
   · rw [if_pos g];decide
   rw [if_neg g]
   by_cases g2:ws.length=6∧¬wat ws 4=vBd
   · rw [if_pos g2];decide
   rw [if_neg g2];decide
 · rw [if_neg h2];decide
theorem rread_a1 (A:Option Addr) (n c:Nat) (ws:List (List UInt8)) (row:Int) (w:World) (h:SSl w A n c ws) (f:fmV ws=[]) (r:n≤4):
 Calls Tryz.prog 164 #[.slice A n c,.int .i64 row] w (vCj w LV.zero 22):=by
 have H:=hid h;have CF:=hid (fun w h=>vCc A n c ws w h);rw [f] at CF;clear f
 have r1:¬(4:Int)<(n:Int):=by omega
 clear h
 go_enter Tryz.func164,Tryz.ntmps164
 go_wp2_with (go_at_call 180;(with_reducible refine (CF.out _ (H.out.alloc _)).mono ?_);rintro e w1 ⟨rfl,rfl⟩);exact bodyPost_ret (vAo _ _ w.heap.size 22 LV.zero SlV.nil SlV.nil SlV.nil SlV.nil rfl rfl (vBt w _)) rfl ⟨_,_,_,_,rfl,LRead.zero,LNew.nil _,(Below.refl _ _).alloc (Nat.le_refl _) _⟩
theorem rread_a2 (A:Option Addr) (n c:Nat) (ws:List (List UInt8)) (row:Int) (w:World) (h:SSl w A n c ws) (f:fmV ws=[]) (r:4<n) (p:¬wat ws 0=vBr):
 Calls Tryz.prog 164 #[.slice A n c,.int .i64 row] w (vCj w LV.zero 22):=by
 have H:=hid h;have hle:=h.le;obtain ⟨b,off,rfl,hb,hc⟩:=h.at_ (by omega);have c0:w.cell? ⟨b,off,none⟩=some (.string (str (wat ws 0))):=hc 0 (by omega);clear hc;have CF:=hid (fun w h=>vCc (some ⟨b,off,none⟩) n c ws w h);rw [f] at CF;clear f
 have r1:(4:Int)<(n:Int):=by omega
 have p1:(wat ws 0 == ([112,111,114,116]:List UInt8))=false:=by simpa [vBr] using p
 clear p;clear h
 go_enter Tryz.func164,Tryz.ntmps164
 go_wp2_with (go_at_call 180;(with_reducible refine (CF.out _ (H.out.alloc _)).mono ?_);rintro e w1 ⟨rfl,rfl⟩);exact bodyPost_ret (vAo _ _ w.heap.size 22 LV.zero SlV.nil SlV.nil SlV.nil SlV.nil rfl rfl (vBt w _)) rfl ⟨_,_,_,_,rfl,LRead.zero,LNew.nil _,(Below.refl _ _).alloc (Nat.le_refl _) _⟩
theorem rread_a3 (A:Option Addr) (n c:Nat) (ws:List (List UInt8)) (row:Int) (w:World) (h:SSl w A n c ws) (f:fmV ws=[]) (r:7<n) (p:wat ws 0=vBr):
 Calls Tryz.prog 164 #[.slice A n c,.int .i64 row] w (vCj w LV.zero 22):=by
 have H:=hid h;have hle:=h.le;obtain ⟨b,off,rfl,hb,hc⟩:=h.at_ (by omega);have c0:w.cell? ⟨b,off,none⟩=some (.string (str (wat ws 0))):=hc 0 (by omega);clear hc;have CF:=hid (fun w h=>vCc (some ⟨b,off,none⟩) n c ws w h);rw [f] at CF;clear f
 have r1:(4:Int)<(n:Int):=by omega
 have r2:¬(n:Int)≤7:=by omega
 rw [p] at c0;unfold vBr at c0;clear p;clear h
 go_enter Tryz.func164,Tryz.ntmps164
 go_wp2_with (go_at_call 180;(with_reducible refine (CF.out _ (H.out.alloc _)).mono ?_);rintro e w1 ⟨rfl,rfl⟩);exact bodyPost_ret (vAo _ _ w.heap.size 22 LV.zero SlV.nil SlV.nil SlV.nil SlV.nil rfl rfl (vBt w _)) rfl ⟨_,_,_,_,rfl,LRead.zero,LNew.nil _,(Below.refl _ _).alloc (Nat.le_refl _) _⟩
theorem rread_a4 (A:Option Addr) (n c:Nat) (ws:List (List UInt8)) (row:Int) (w:World) (h:SSl w A n c ws) (f:fmV ws=[]) (r:n=5) (p:wat ws 0=vBr):
 Calls Tryz.prog 164 #[.slice A n c,.int .i64 row] w (vCj w LV.zero 22):=by
 have H:=hid h;have hle:=h.le;obtain ⟨b,off,rfl,hb,hc⟩:=h.at_ (by omega);have c0:w.cell? ⟨b,off,none⟩=some (.string (str (wat ws 0))):=hc 0 (by omega);clear hc;have CF:=hid (fun w h=>vCc (some ⟨b,off,none⟩) n c ws w h);rw [f] at CF;clear f;subst r;rw [p] at c0;unfold vBr at c0;clear p;clear h
 go_enter Tryz.func164,Tryz.ntmps164
 go_wp2_with (go_at_call 180;(with_reducible refine (CF.out _ (H.out.alloc _)).mono ?_);rintro e w1 ⟨rfl,rfl⟩);exact bodyPost_ret (vAo _ _ w.heap.size 22 LV.zero SlV.nil SlV.nil SlV.nil SlV.nil rfl rfl (vBt w _)) rfl ⟨_,_,_,_,rfl,LRead.zero,LNew.nil _,(Below.refl _ _).alloc (Nat.le_refl _) _⟩
theorem rread_a5 (A:Option Addr) (n c:Nat) (ws:List (List UInt8)) (row:Int) (w:World) (h:SSl w A n c ws) (f:fmV ws=[]) (r:n=6∨n=7) (p:wat ws 0=vBr) (g:wat ws 4=vAt):
 Calls Tryz.prog 164 #[.slice A n c,.int .i64 row] w (vCj w LV.zero 22):=by
 have H:=hid h;have hle:=h.le;obtain ⟨b,off,rfl,hb,hc⟩:=h.at_ (by omega);have c0:w.cell? ⟨b,off,none⟩=some (.string (str (wat ws 0))):=hc 0 (by omega);have c4:w.cell? ⟨b,off+4,none⟩=some (.string (str (wat ws 4))):=hc 4 (by omega);clear hc;have CF:=hid (fun w h=>vCc (some ⟨b,off,none⟩) n c ws w h);rw [f] at CF;clear f
 have r1:(4:Int)<(n:Int):=by omega
 have r2:(n:Int)≤7:=by omega
 have r3:(6:Int)≤(n:Int):=by omega
 rw [p] at c0;unfold vBr at c0;rw [g] at c4;unfold vAt at c4;clear p g r;clear h
 go_enter Tryz.func164,Tryz.ntmps164
 go_wp2_with (go_at_call 180;(with_reducible refine (CF.out _ (H.out.alloc _)).mono ?_);rintro e w1 ⟨rfl,rfl⟩);exact bodyPost_ret (vAo _ _ w.heap.size 22 LV.zero SlV.nil SlV.nil SlV.nil SlV.nil rfl rfl (vBt w _)) rfl ⟨_,_,_,_,rfl,LRead.zero,LNew.nil _,(Below.refl _ _).alloc (Nat.le_refl _) _⟩
theorem rread_a6 (A:Option Addr) (n c:Nat) (ws:List (List UInt8)) (row:Int) (w:World) (h:SSl w A n c ws) (f:fmV ws=[]) (r:n=6∨n=7) (p:wat ws 0=vBr) (g:wat ws 4=vBd):
 Calls Tryz.prog 164 #[.slice A n c,.int .i64 row] w (vCj w LV.zero 22):=by
 have H:=hid h;have hle:=h.le;obtain ⟨b,off,rfl,hb,hc⟩:=h.at_ (by omega);have c0:w.cell? ⟨b,off,none⟩=some (.string (str (wat ws 0))):=hc 0 (by omega);have c4:w.cell? ⟨b,off+4,none⟩=some (.string (str (wat ws 4))):=hc 4 (by omega);clear hc;have CF:=hid (fun w h=>vCc (some ⟨b,off,none⟩) n c ws w h);rw [f] at CF;clear f
 have r1:(4:Int)<(n:Int):=by omega
 have r2:(n:Int)≤7:=by omega
 have r3:(6:Int)≤(n:Int):=by omega
 rw [p] at c0;unfold vBr at c0;rw [g] at c4;unfold vBd at c4;clear p g r;clear h
 go_enter Tryz.func164,Tryz.ntmps164
 go_wp2_with (go_at_call 180;(with_reducible refine (CF.out _ (H.out.alloc _)).mono ?_);rintro e w1 ⟨rfl,rfl⟩);exact bodyPost_ret (vAo _ _ w.heap.size 22 LV.zero SlV.nil SlV.nil SlV.nil SlV.nil rfl rfl (vBt w _)) rfl ⟨_,_,_,_,rfl,LRead.zero,LNew.nil _,(Below.refl _ _).alloc (Nat.le_refl _) _⟩
theorem rread_b1 (A:Option Addr) (n c:Nat) (ws:List (List UInt8)) (row:Int) (w:World) (h:SSl w A n c ws) (f:¬fmV ws=[]) (f2:¬n=(fmV ws).length+1) (r:n≤4):
 Calls Tryz.prog 164 #[.slice A n c,.int .i64 row] w (vCj w LV.zero 22):=by
 have H:=hid h;have CF:=hid (fun w h=>vCc A n c ws w h)
 have d1:(fmV ws == ([]:List UInt8))=false:=by simpa using f
 have fl:(fmV ws).length≤6:=fm_len ws
 have d2:((n:Int) != ((fmV ws).length:Int)+1)=true:=by simp;omega
 generalize fmV ws=F at *;clear f f2
 have r1:¬(4:Int)<(n:Int):=by omega
 clear h
 go_enter Tryz.func164,Tryz.ntmps164
 go_wp2_with (go_at_call 180;(with_reducible refine (CF.out _ (H.out.alloc _)).mono ?_);rintro e w1 ⟨rfl,rfl⟩);exact bodyPost_ret (vAo _ _ w.heap.size 22 LV.zero SlV.nil SlV.nil SlV.nil SlV.nil rfl rfl (vBt w _)) rfl ⟨_,_,_,_,rfl,LRead.zero,LNew.nil _,(Below.refl _ _).alloc (Nat.le_refl _) _⟩
theorem rread_b2 (A:Option Addr) (n c:Nat) (ws:List (List UInt8)) (row:Int) (w:World) (h:SSl w A n c ws) (f:¬fmV ws=[]) (f2:¬n=(fmV ws).length+1) (r:4<n) (p:¬wat ws 0=vBr):
 Calls Tryz.prog 164 #[.slice A n c,.int .i64 row] w (vCj w LV.zero 22):=by
 have H:=hid h;have hle:=h.le;obtain ⟨b,off,rfl,hb,hc⟩:=h.at_ (by omega);have c0:w.cell? ⟨b,off,none⟩=some (.string (str (wat ws 0))):=hc 0 (by omega);clear hc;have CF:=hid (fun w h=>vCc (some ⟨b,off,none⟩) n c ws w h)
 have d1:(fmV ws == ([]:List UInt8))=false:=by simpa using f
 have fl:(fmV ws).length≤6:=fm_len ws
 have d2:((n:Int) != ((fmV ws).length:Int)+1)=true:=by simp;omega
 generalize fmV ws=F at *;clear f f2
 have r1:(4:Int)<(n:Int):=by omega
 have p1:(wat ws 0 == ([112,111,114,116]:List UInt8))=false:=by simpa [vBr] using p
 clear p;clear h
 go_enter Tryz.func164,Tryz.ntmps164
 go_wp2_with (go_at_call 180;(with_reducible refine (CF.out _ (H.out.alloc _)).mono ?_);rintro e w1 ⟨rfl,rfl⟩);exact bodyPost_ret (vAo _ _ w.heap.size 22 LV.zero SlV.nil SlV.nil SlV.nil SlV.nil rfl rfl (vBt w _)) rfl ⟨_,_,_,_,rfl,LRead.zero,LNew.nil _,(Below.refl _ _).alloc (Nat.le_refl _) _⟩
theorem rread_b3 (A:Option Addr) (n c:Nat) (ws:List (List UInt8)) (row:Int) (w:World) (h:SSl w A n c ws) (f:¬fmV ws=[]) (_f2:¬n=(fmV ws).length+1) (r:7<n) (p:wat ws 0=vBr):
 Calls Tryz.prog 164 #[.slice A n c,.int .i64 row] w (vCj w LV.zero 22):=by
 have H:=hid h;have hle:=h.le;obtain ⟨b,off,rfl,hb,hc⟩:=h.at_ (by omega);have c0:w.cell? ⟨b,off,none⟩=some (.string (str (wat ws 0))):=hc 0 (by omega);clear hc;have CF:=hid (fun w h=>vCc (some ⟨b,off,none⟩) n c ws w h)
 have d1:(fmV ws == ([]:List UInt8))=false:=by simpa using f
 have fl:(fmV ws).length≤6:=fm_len ws
 have d2:((n:Int) != ((fmV ws).length:Int)+1)=true:=by simp;omega
 generalize fmV ws=F at *;clear f
 have r1:(4:Int)<(n:Int):=by omega
 have r2:¬(n:Int)≤7:=by omega
 rw [p] at c0;unfold vBr at c0;clear p;clear h
 go_enter Tryz.func164,Tryz.ntmps164
 go_wp2_with (go_at_call 180;(with_reducible refine (CF.out _ (H.out.alloc _)).mono ?_);rintro e w1 ⟨rfl,rfl⟩);exact bodyPost_ret (vAo _ _ w.heap.size 22 LV.zero SlV.nil SlV.nil SlV.nil SlV.nil rfl rfl (vBt w _)) rfl ⟨_,_,_,_,rfl,LRead.zero,LNew.nil _,(Below.refl _ _).alloc (Nat.le_refl _) _⟩
theorem rread_b4 (A:Option Addr) (n c:Nat) (ws:List (List UInt8)) (row:Int) (w:World) (h:SSl w A n c ws) (f:¬fmV ws=[]) (f2:¬n=(fmV ws).length+1) (r:n=5) (p:wat ws 0=vBr):
 Calls Tryz.prog 164 #[.slice A n c,.int .i64 row] w (vCj w LV.zero 22):=by
 have H:=hid h;have hle:=h.le;obtain ⟨b,off,rfl,hb,hc⟩:=h.at_ (by omega);have c0:w.cell? ⟨b,off,none⟩=some (.string (str (wat ws 0))):=hc 0 (by omega);clear hc;have CF:=hid (fun w h=>vCc (some ⟨b,off,none⟩) n c ws w h)
 have d1:(fmV ws == ([]:List UInt8))=false:=by simpa using f
 have fl:(fmV ws).length≤6:=fm_len ws
 have d2:((n:Int) != ((fmV ws).length:Int)+1)=true:=by simp;omega
 generalize fmV ws=F at *;clear f f2;subst r;rw [p] at c0;unfold vBr at c0;clear p;clear h
 go_enter Tryz.func164,Tryz.ntmps164
 go_wp2_with (go_at_call 180;(with_reducible refine (CF.out _ (H.out.alloc _)).mono ?_);rintro e w1 ⟨rfl,rfl⟩);exact bodyPost_ret (vAo _ _ w.heap.size 22 LV.zero SlV.nil SlV.nil SlV.nil SlV.nil rfl rfl (vBt w _)) rfl ⟨_,_,_,_,rfl,LRead.zero,LNew.nil _,(Below.refl _ _).alloc (Nat.le_refl _) _⟩
theorem rread_b5 (A:Option Addr) (n c:Nat) (ws:List (List UInt8)) (row:Int) (w:World) (h:SSl w A n c ws) (f:¬fmV ws=[]) (f2:¬n=(fmV ws).length+1) (r:n=6∨n=7) (p:wat ws 0=vBr) (g:wat ws 4=vAt):
 Calls Tryz.prog 164 #[.slice A n c,.int .i64 row] w (vCj w LV.zero 22):=by
 have H:=hid h;have hle:=h.le;obtain ⟨b,off,rfl,hb,hc⟩:=h.at_ (by omega);have c0:w.cell? ⟨b,off,none⟩=some (.string (str (wat ws 0))):=hc 0 (by omega);have c4:w.cell? ⟨b,off+4,none⟩=some (.string (str (wat ws 4))):=hc 4 (by omega);clear hc;have CF:=hid (fun w h=>vCc (some ⟨b,off,none⟩) n c ws w h)
 have d1:(fmV ws == ([]:List UInt8))=false:=by simpa using f
 have fl:(fmV ws).length≤6:=fm_len ws
 have d2:((n:Int) != ((fmV ws).length:Int)+1)=true:=by simp;omega
 generalize fmV ws=F at *;clear f f2
 have r1:(4:Int)<(n:Int):=by omega
 have r2:(n:Int)≤7:=by omega
 have r3:(6:Int)≤(n:Int):=by omega
 rw [p] at c0;unfold vBr at c0;rw [g] at c4;unfold vAt at c4;clear p g r;clear h
 go_enter Tryz.func164,Tryz.ntmps164
 go_wp2_with (go_at_call 180;(with_reducible refine (CF.out _ (H.out.alloc _)).mono ?_);rintro e w1 ⟨rfl,rfl⟩);exact bodyPost_ret (vAo _ _ w.heap.size 22 LV.zero SlV.nil SlV.nil SlV.nil SlV.nil rfl rfl (vBt w _)) rfl ⟨_,_,_,_,rfl,LRead.zero,LNew.nil _,(Below.refl _ _).alloc (Nat.le_refl _) _⟩
theorem rread_b6 (A:Option Addr) (n c:Nat) (ws:List (List UInt8)) (row:Int) (w:World) (h:SSl w A n c ws) (f:¬fmV ws=[]) (f2:¬n=(fmV ws).length+1) (r:n=6∨n=7) (p:wat ws 0=vBr) (g:wat ws 4=vBd):
 Calls Tryz.prog 164 #[.slice A n c,.int .i64 row] w (vCj w LV.zero 22):=by
 have H:=hid h;have hle:=h.le;obtain ⟨b,off,rfl,hb,hc⟩:=h.at_ (by omega);have c0:w.cell? ⟨b,off,none⟩=some (.string (str (wat ws 0))):=hc 0 (by omega);have c4:w.cell? ⟨b,off+4,none⟩=some (.string (str (wat ws 4))):=hc 4 (by omega);clear hc;have CF:=hid (fun w h=>vCc (some ⟨b,off,none⟩) n c ws w h)
 have d1:(fmV ws == ([]:List UInt8))=false:=by simpa using f
 have fl:(fmV ws).length≤6:=fm_len ws
 have d2:((n:Int) != ((fmV ws).length:Int)+1)=true:=by simp;omega
 generalize fmV ws=F at *;clear f f2
 have r1:(4:Int)<(n:Int):=by omega
 have r2:(n:Int)≤7:=by omega
 have r3:(6:Int)≤(n:Int):=by omega
 rw [p] at c0;unfold vBr at c0;rw [g] at c4;unfold vBd at c4;clear p g r;clear h
 go_enter Tryz.func164,Tryz.ntmps164
 go_wp2_with (go_at_call 180;(with_reducible refine (CF.out _ (H.out.alloc _)).mono ?_);rintro e w1 ⟨rfl,rfl⟩);exact bodyPost_ret (vAo _ _ w.heap.size 22 LV.zero SlV.nil SlV.nil SlV.nil SlV.nil rfl rfl (vBt w _)) rfl ⟨_,_,_,_,rfl,LRead.zero,LNew.nil _,(Below.refl _ _).alloc (Nat.le_refl _) _⟩
theorem vAm {c:UInt8} {f s:List UInt8} {ws:List (List UInt8)} {k:Nat} {L:LV} (h:(vCf (c :: f) (s :: ws) k L).1=0):
 wdE c s=0∧vCf (c :: f) (s :: ws) k L=vCf f ws (if c=78 then k+1 else k) (wdL c s k L):=by
 rw [vCf] at h ⊢
 by_cases e:wdE c s=0
 · exact ⟨e,if_pos e⟩
 · rw [if_neg e] at h
   exact absurd h e
theorem shAddr_bd (l:List UInt8):0≤rdV l∧rdV l≤4294967295:=by
 unfold rdV
 cases h:rdF l with
 |none=>exact ⟨Int.le_refl _,by decide⟩
 |some a=>have:=(rdF_iff.1 h).1;show 0≤((a:Nat):Int)∧((a:Nat):Int)≤_;omega
theorem shMac_bd (s:List UInt8):0≤mcV s∧mcV s<281474976710656:=by
 unfold mcV Mac.rdV
 by_cases h:Mac.rdB (str s)=true
 · rw [if_pos h]
   unfold Mac.rdB at h;rw [Bool.and_eq_true,List.all_eq_true] at h
   have:=Mac.val_bd (str s) 6 (fun j hj=>by have:=h.2 j (List.mem_range.2 hj);simpa using this)
   exact this
 · rw [if_neg h];decide
theorem shPf_bd (s:List UInt8):(0≤paV s∧paV s≤4294967295)∧(0≤pbV s∧pbV s≤32):=by
 unfold paV pbV
 cases h:pfF s with
 |none=>exact ⟨⟨Int.le_refl _,by decide⟩,⟨Int.le_refl _,by decide⟩⟩
 |some x=>
  obtain ⟨a,b⟩:=x
  have:=pfF_iff.1 h
  show (0≤((a:Nat):Int)∧((a:Nat):Int)≤_)∧(0≤((b:Nat):Int)∧((b:Nat):Int)≤_)
  omega
def McOk (m:Int):Prop:=0≤m∧m<281474976710656∧stB m=true
def LsOk (hi:Int) (xs:List Int):Prop:=xs=[]∨vBy xs 1 hi=true
theorem nB_yes {s:List UInt8} {lo hi:Int} (h:nB s lo hi=true):lo≤nV s lo hi∧nV s lo hi≤hi:=by
 unfold nB at h;obtain ⟨n,hn⟩:=Option.isSome_iff_exists.1 h
 have:=vGa.1 hn
 unfold nV;rw [hn];exact ⟨this.2.2.1,this.2.2.2⟩
theorem nV_no {s:List UInt8} {lo hi:Int} (h:nB s lo hi=false):nV s lo hi=0:=by
 unfold nB at h;unfold nV
 cases hx:nF s lo hi with
 |none=>rfl
 |some n=>rw [hx] at h;cases h
theorem ls_ris {lo hi:Int} {s:List UInt8} (h:lsB (rdI lo hi) s=true):vBy (lsV (rdI lo hi) s) lo hi=true:=by
 unfold lsB at h;obtain ⟨xs,hx⟩:=Option.isSome_iff_exists.1 h;rw [(ls_yes hx).1];unfold rlF at hx
 cases ha:vBq (rdI lo hi) (vAg s) with
 |none=>rw [ha] at hx;cases hx
 |some ys=>
  rw [ha] at hx
  by_cases hr:risB ys=true
  · have e:ys=xs:=by
     have:(if risB ys=true then some ys else none)=some xs:=hx
     rw [if_pos hr] at this;injection this
    subst e;unfold vBy;rw [hr,Bool.true_and,vHj];intro x hx2;obtain ⟨p,hp⟩:=allRd_all ha x hx2
    have:=vGa.1 hp
    exact ⟨this.2.2.1,this.2.2.2⟩
  · have:(if risB ys=true then some ys else none)=some xs:=hx
    rw [if_neg hr] at this
    cases this
theorem lsD_ok {s:List UInt8} {hi:Int} (h:lsDB s hi=true):LsOk hi (lsD s hi):=by
 unfold lsDB at h;unfold lsD LsOk
 by_cases e:s=dash
 · rw [if_pos e];exact .inl rfl
 · rw [if_neg e] at h ⊢
   exact .inr (ls_ris h)
theorem lsA_ris {s:List UInt8} (h:lsB rdA s=true):vBy (lsV rdA s) 0 4294967295=true:=by
 unfold lsB at h;obtain ⟨xs,hx⟩:=Option.isSome_iff_exists.1 h;rw [(ls_yes hx).1];unfold rlF at hx
 cases ha:vBq rdA (vAg s) with
 |none=>rw [ha] at hx;cases hx
 |some ys=>
  rw [ha] at hx
  by_cases hr:risB ys=true
  · have e:ys=xs:=by
     have:(if risB ys=true then some ys else none)=some xs:=hx
     rw [if_pos hr] at this;injection this
    subst e;unfold vBy;rw [hr,Bool.true_and,vHj];intro x hx2;obtain ⟨p,hp⟩:=allRd_all ha x hx2
    have:=rdA_yes hp
    rw [←this.1];exact shAddr_bd p
  · have:(if risB ys=true then some ys else none)=some xs:=hx
    rw [if_neg hr] at this
    cases this
theorem we_N {s:List UInt8} (h:wdE 78 s=0):nmB s=true:=by
 have e:wdE 78 s=if nmB s=true then 0 else 20:=rfl;rw [e] at h
 by_cases g:nmB s=true
 · exact g
 · rw [if_neg g] at h;cases h
theorem we_B {b:Bool} (h:(if b=true then (0:Int) else 21)=0):b=true:=by
 cases b with
 |true=>rfl
 |false=>cases h
theorem we_P {s:List UInt8} (h:wdE 80 s=0):0≤nV s 0 65535∧nV s 0 65535≤65535:=nB_yes (we_B (b:=nB s 0 65535) h)
theorem we_C {s:List UInt8} (h:wdE 67 s=0):1≤nV s 1 65535∧nV s 1 65535≤65535:=nB_yes (we_B (b:=nB s 1 65535) h)
theorem we_V {s:List UInt8} (h:wdE 86 s=0):1≤nV s 1 4094∧nV s 1 4094≤4094:=nB_yes (we_B (b:=nB s 1 4094) h)
theorem we_W {s:List UInt8} (h:wdE 87 s=0):0≤nV s 1 4094∧nV s 1 4094≤4094:=by
 have g:=we_B (b:=nB s 1 4094 || decide (s=dash)) h
 cases hx:nB s 1 4094 with
 |true=>have:=nB_yes hx;omega
 |false=>rw [nV_no hx];omega
theorem we_I {s:List UInt8} (h:wdE 73 s=0):1≤nV s 1 16777215∧nV s 1 16777215≤16777215:=nB_yes (we_B (b:=nB s 1 16777215) h)
theorem we_T {s:List UInt8} (h:wdE 84 s=0):LsOk 4094 (lsD s 4094):=lsD_ok (we_B (b:=lsDB s 4094) h)
theorem we_R {s:List UInt8} (h:wdE 82 s=0):LsOk 65535 (lsD s 65535):=lsD_ok (we_B (b:=lsDB s 65535) h)
theorem we_M {s:List UInt8} (h:wdE 77 s=0):McOk (mcV s):=by
 have g:=we_B (b:=mcB s && stB (mcV s)) h;rw [Bool.and_eq_true] at g;exact ⟨(shMac_bd s).1,(shMac_bd s).2,g.2⟩
theorem we_A {s:List UInt8} (h:wdE 65 s=0):0<rdV s∧rdV s≤4294967295:=by
 have g:=we_B (b:=rdB s && decide (0<rdV s)) h;rw [Bool.and_eq_true,decide_eq_true_eq] at g;exact ⟨g.2,(shAddr_bd s).2⟩
theorem we_L {s:List UInt8} (h:wdE 76 s=0):vBy (lsV rdA s) 0 4294967295=true∧0<(lsV rdA s).getD 0 0:=by
 have g:=we_B (b:=lsB rdA s && decide (0<(lsV rdA s).getD 0 0)) h;rw [Bool.and_eq_true,decide_eq_true_eq] at g;exact ⟨lsA_ris g.1,g.2⟩
theorem we_S {s:List UInt8} (h:wdE 83 s=0):snB (paV s) (pbV s)=true∧(0≤paV s∧paV s≤4294967295)∧(0≤pbV s∧pbV s≤32):=by
 have g:=we_B (b:=pfB s && snB (paV s) (pbV s)) h;rw [Bool.and_eq_true] at g;exact ⟨g.2,shPf_bd s⟩
def Kd1 (row:Int) (L:LV):Prop:=∃s a m,L={LV.new row 1 with dev:=s,num:=a,mac:=m}∧nmB s=true∧(0≤a∧a≤65535)∧McOk m
def Kd2 (row:Int) (L:LV):Prop:=∃s p c v t,L={LV.new row 2 with dev:=s,port:=p,cost:=c,vlan:=v,tagged:=t}∧nmB s=true∧nmB p=true∧(1≤c∧c≤65535)∧(0≤v∧v≤4094)∧LsOk 4094 t
def Kd3 (row:Int) (L:LV):Prop:=∃s p q r,L={LV.new row 3 with dev:=s,port:=p,peer:=q,far:=r}∧nmB s=true∧nmB p=true∧nmB q=true∧nmB r=true
def Kd4 (row:Int) (L:LV):Prop:=∃s v m p,L={LV.new row 4 with dev:=s,vlan:=v,mac:=m,port:=p}∧nmB s=true∧(1≤v∧v≤4094)∧McOk m∧nmB p=true
def Kd5 (row:Int) (L:LV):Prop:=∃s a,L={LV.new row 5 with dev:=s,addr:=a}∧nmB s=true∧(0<a∧a≤4294967295)
def Kd6 (row:Int) (L:LV):Prop:=∃s v a,L={LV.new row 6 with dev:=s,vlan:=v,num:=a}∧nmB s=true∧(1≤v∧v≤4094)∧(1≤a∧a≤16777215)
def Kd7 (row:Int) (L:LV):Prop:=∃s a x,L={LV.new row 7 with dev:=s,num:=a,addrs:=x}∧nmB s=true∧(1≤a∧a≤16777215)∧(vBy x 0 4294967295=true∧0<x.getD 0 0)
def Kd8 (row:Int) (L:LV):Prop:=∃s n x y,L={LV.new row 8 with dev:=s,name:=n,imports:=x,exports:=y}∧nmB s=true∧nmB n=true∧LsOk 65535 x∧LsOk 65535 y
def Kd9 (row:Int) (L:LV):Prop:=∃s v n a b,L={LV.new row 9 with dev:=s,vlan:=v,name:=n,addr:=a,bits:=b}∧nmB s=true∧(1≤v∧v≤4094)∧nmB n=true∧(snB a b=true∧(0≤a∧a≤4294967295)∧(0≤b∧b≤32))
theorem rk1 (row:Int) (w1 w2 w3:List UInt8) (h:(vCf [78,80,77] [w1,w2,w3] 0 (LV.new row 1)).1=0):Kd1 row (vCf [78,80,77] [w1,w2,w3] 0 (LV.new row 1)).2:=by
 obtain ⟨e1,r1⟩:=vAm h;rw [r1] at h ⊢;obtain ⟨e2,r2⟩:=vAm h;rw [r2] at h ⊢;obtain ⟨e3,r3⟩:=vAm h;rw [r3] at h ⊢;exact ⟨w1,nV w2 0 65535,mcV w3,rfl,we_N e1,we_P e2,we_M e3⟩
theorem rk3 (row:Int) (w1 w2 w3 w4:List UInt8) (h:(vCf [78,78,78,78] [w1,w2,w3,w4] 0 (LV.new row 3)).1=0):Kd3 row (vCf [78,78,78,78] [w1,w2,w3,w4] 0 (LV.new row 3)).2:=by
 obtain ⟨e1,r1⟩:=vAm h;rw [r1] at h ⊢;obtain ⟨e2,r2⟩:=vAm h;rw [r2] at h ⊢;obtain ⟨e3,r3⟩:=vAm h;rw [r3] at h ⊢;obtain ⟨e4,r4⟩:=vAm h;rw [r4] at h ⊢;exact ⟨w1,w2,w3,w4,rfl,we_N e1,we_N e2,we_N e3,we_N e4⟩
theorem rk4 (row:Int) (w1 w2 w3 w4:List UInt8) (h:(vCf [78,86,77,78] [w1,w2,w3,w4] 0 (LV.new row 4)).1=0):Kd4 row (vCf [78,86,77,78] [w1,w2,w3,w4] 0 (LV.new row 4)).2:=by
 obtain ⟨e1,r1⟩:=vAm h;rw [r1] at h ⊢;obtain ⟨e2,r2⟩:=vAm h;rw [r2] at h ⊢;obtain ⟨e3,r3⟩:=vAm h;rw [r3] at h ⊢;obtain ⟨e4,r4⟩:=vAm h;rw [r4] at h ⊢;exact ⟨w1,nV w2 1 4094,mcV w3,w4,rfl,we_N e1,we_V e2,we_M e3,we_N e4⟩
theorem rk5 (row:Int) (w1 w2:List UInt8) (h:(vCf [78,65] [w1,w2] 0 (LV.new row 5)).1=0):Kd5 row (vCf [78,65] [w1,w2] 0 (LV.new row 5)).2:=by
 obtain ⟨e1,r1⟩:=vAm h;rw [r1] at h ⊢;obtain ⟨e2,r2⟩:=vAm h;rw [r2] at h ⊢;exact ⟨w1,rdV w2,rfl,we_N e1,we_A e2⟩
theorem rk6 (row:Int) (w1 w2 w3:List UInt8) (h:(vCf [78,86,73] [w1,w2,w3] 0 (LV.new row 6)).1=0):Kd6 row (vCf [78,86,73] [w1,w2,w3] 0 (LV.new row 6)).2:=by
 obtain ⟨e1,r1⟩:=vAm h;rw [r1] at h ⊢;obtain ⟨e2,r2⟩:=vAm h;rw [r2] at h ⊢;obtain ⟨e3,r3⟩:=vAm h;rw [r3] at h ⊢;exact ⟨w1,nV w2 1 4094,nV w3 1 16777215,rfl,we_N e1,we_V e2,we_I e3⟩
theorem rk7 (row:Int) (w1 w2 w3:List UInt8) (h:(vCf [78,73,76] [w1,w2,w3] 0 (LV.new row 7)).1=0):Kd7 row (vCf [78,73,76] [w1,w2,w3] 0 (LV.new row 7)).2:=by
 obtain ⟨e1,r1⟩:=vAm h;rw [r1] at h ⊢;obtain ⟨e2,r2⟩:=vAm h;rw [r2] at h ⊢;obtain ⟨e3,r3⟩:=vAm h;rw [r3] at h ⊢;exact ⟨w1,nV w2 1 16777215,lsV rdA w3,rfl,we_N e1,we_I e2,we_L e3⟩
theorem rk8 (row:Int) (w1 w2 w3 w4:List UInt8) (h:(vCf [78,78,82,82] [w1,w2,w3,w4] 0 (LV.new row 8)).1=0):Kd8 row (vCf [78,78,82,82] [w1,w2,w3,w4] 0 (LV.new row 8)).2:=by
 obtain ⟨e1,r1⟩:=vAm h;rw [r1] at h ⊢;obtain ⟨e2,r2⟩:=vAm h;rw [r2] at h ⊢;obtain ⟨e3,r3⟩:=vAm h;rw [r3] at h ⊢;obtain ⟨e4,r4⟩:=vAm h;rw [r4] at h ⊢;exact ⟨w1,w2,lsD w3 65535,lsD w4 65535,rfl,we_N e1,we_N e2,we_R e3,we_R e4⟩
theorem rk9 (row:Int) (w1 w2 w3 w4:List UInt8) (h:(vCf [78,86,78,83] [w1,w2,w3,w4] 0 (LV.new row 9)).1=0):Kd9 row (vCf [78,86,78,83] [w1,w2,w3,w4] 0 (LV.new row 9)).2:=by
 obtain ⟨e1,r1⟩:=vAm h;rw [r1] at h ⊢;obtain ⟨e2,r2⟩:=vAm h;rw [r2] at h ⊢;obtain ⟨e3,r3⟩:=vAm h;rw [r3] at h ⊢;obtain ⟨e4,r4⟩:=vAm h;rw [r4] at h ⊢;exact ⟨w1,nV w2 1 4094,w3,paV w4,pbV w4,rfl,we_N e1,we_V e2,we_N e3,we_S e4⟩
theorem rk2 (row:Int) (w1 w2 w3 w4 w5 w6:List UInt8) (h:(vCf [78,78,67,75,87,84] [w1,w2,w3,w4,w5,w6] 0 (LV.new row 2)).1=0):Kd2 row (vCf [78,78,67,75,87,84] [w1,w2,w3,w4,w5,w6] 0 (LV.new row 2)).2:=by
 obtain ⟨e1,r1⟩:=vAm h;rw [r1] at h ⊢;obtain ⟨e2,r2⟩:=vAm h;rw [r2] at h ⊢;obtain ⟨e3,r3⟩:=vAm h;rw [r3] at h ⊢;obtain ⟨e4,r4⟩:=vAm h;rw [r4] at h ⊢;obtain ⟨e5,r5⟩:=vAm h;rw [r5] at h ⊢;obtain ⟨e6,r6⟩:=vAm h;rw [r6] at h ⊢;exact ⟨w1,w2,nV w3 1 65535,nV w5 1 4094,lsD w6 4094,rfl,we_N e1,we_N e2,we_C e3,we_W e5,we_T e6⟩
theorem rk0 (row:Int) (w1 w2 w3 w4 w5:List UInt8) (h:(vCf [78,78,67,75,86] [w1,w2,w3,w4,w5] 0 (LV.new row 2)).1=0):Kd2 row (vCf [78,78,67,75,86] [w1,w2,w3,w4,w5] 0 (LV.new row 2)).2:=by
 obtain ⟨e1,r1⟩:=vAm h;rw [r1] at h ⊢;obtain ⟨e2,r2⟩:=vAm h;rw [r2] at h ⊢;obtain ⟨e3,r3⟩:=vAm h;rw [r3] at h ⊢;obtain ⟨e4,r4⟩:=vAm h;rw [r4] at h ⊢;obtain ⟨e5,r5⟩:=vAm h;rw [r5] at h ⊢;exact ⟨w1,w2,nV w3 1 65535,nV w5 1 4094,[],rfl,we_N e1,we_N e2,we_C e3,⟨by have:=(we_V e5).1;omega,(we_V e5).2⟩,.inl rfl⟩
def RdK (row:Int) (L:LV):Prop:=Kd1 row L∨(Kd2 row L∧mbB L=true)∨Kd3 row L∨Kd4 row L∨Kd5 row L∨Kd6 row L∨Kd7 row L∨Kd8 row L∨Kd9 row L
theorem vAl {ws:List (List UInt8)} {n:Nat} (h:ws.length=n+1):∃w0 r,ws=w0 :: r∧r.length=n:=by
 cases ws with
 |nil=>cases h
 |cons a r=>exact ⟨a,r,rfl,by simpa using h⟩
theorem rd_cases (ws:List (List UInt8)) (row:Int) (h:rdE ws row=0):RdK row (rdL ws row):=by
 have hL:rdL ws row=(vCf (ltV ws) (ws.drop 1) 0 (LV.new row (kdV (wat ws 0)))).2:=by unfold rdL;rw [if_pos h]
 rw [hL];unfold rdE at h
 by_cases hl:ltV ws=[]
 · rw [if_pos hl] at h;cases h
 rw [if_neg hl] at h
 have hf:fmV ws≠[]∧ws.length=(fmV ws).length+1:=by
  by_cases g:fmV ws≠[]∧ws.length=(fmV ws).length+1
  · exact g
  · exact absurd (show ltV ws=[] from if_neg g) hl
 have hlt:ltV ws=fmV ws:=if_pos hf;rw [hlt] at h ⊢
 have h1:(vCf (fmV ws) (ws.drop 1) 0 (LV.new row (kdV (wat ws 0)))).1=0:=by
  by_cases g:(vCf (fmV ws) (ws.drop 1) 0 (LV.new row (kdV (wat ws 0)))).1=0
  · exact g
  · have h2:(if (vCf (fmV ws) (ws.drop 1) 0 (LV.new row (kdV (wat ws 0)))).1=0 then (if (vCf (fmV ws) (ws.drop 1) 0 (LV.new row (kdV (wat ws 0)))).2.kind=2∧mbB (vCf (fmV ws) (ws.drop 1) 0 (LV.new row (kdV (wat ws 0)))).2=false then (21:Int) else 0) else (vCf (fmV ws) (ws.drop 1) 0 (LV.new row (kdV (wat ws 0)))).1)=0:=h
    rw [if_neg g] at h2;exact absurd h2 g
 have h3:¬((vCf (fmV ws) (ws.drop 1) 0 (LV.new row (kdV (wat ws 0)))).2.kind=2∧mbB (vCf (fmV ws) (ws.drop 1) 0 (LV.new row (kdV (wat ws 0)))).2=false):=by
  intro g;have h2:(if (vCf (fmV ws) (ws.drop 1) 0 (LV.new row (kdV (wat ws 0)))).1=0 then (if (vCf (fmV ws) (ws.drop 1) 0 (LV.new row (kdV (wat ws 0)))).2.kind=2∧mbB (vCf (fmV ws) (ws.drop 1) 0 (LV.new row (kdV (wat ws 0)))).2=false then (21:Int) else 0) else (vCf (fmV ws) (ws.drop 1) 0 (LV.new row (kdV (wat ws 0)))).1)=0:=h;rw [if_pos h1,if_pos g] at h2
  cases h2
 clear h hL hl hlt
 have h0:¬ws=[]:=by intro e;subst e;exact hf.1 rfl
 by_cases k1:kdV (wat ws 0)=1
 · have e:fmV ws=[78,80,77]:=by unfold fmV;rw [if_neg h0,if_pos k1]
   rw [e,k1] at h1 ⊢
   have hlen:ws.length=4:=by rw [hf.2,e];rfl
   clear hf h3 e k1 h0;obtain ⟨w0,r0,rfl,l0⟩:=vAl hlen;obtain ⟨w1,r1,rfl,l1⟩:=vAl l0;obtain ⟨w2,r2,rfl,l2⟩:=vAl l1;obtain ⟨w3,r3,rfl,l3⟩:=vAl l2;obtain rfl:r3=[]:=List.eq_nil_of_length_eq_zero l3;exact .inl (rk1 row w1 w2 w3 h1)
 by_cases k3:kdV (wat ws 0)=3
 · have e:fmV ws=[78,78,78,78]:=by unfold fmV;rw [if_neg h0,if_neg k1,if_pos k3]
   rw [e,k3] at h1 ⊢
   have hlen:ws.length=5:=by rw [hf.2,e];rfl
   clear hf h3 e k3 h0 k1;obtain ⟨w0,r0,rfl,l0⟩:=vAl hlen;obtain ⟨w1,r1,rfl,l1⟩:=vAl l0;obtain ⟨w2,r2,rfl,l2⟩:=vAl l1;obtain ⟨w3,r3,rfl,l3⟩:=vAl l2;obtain ⟨w4,r4,rfl,l4⟩:=vAl l3;obtain rfl:r4=[]:=List.eq_nil_of_length_eq_zero l4;exact .inr (.inr (.inl (rk3 row w1 w2 w3 w4 h1)))
 by_cases k4:kdV (wat ws 0)=4
 · have e:fmV ws=[78,86,77,78]:=by unfold fmV;rw [if_neg h0,if_neg k1,if_neg k3,if_pos k4]
   rw [e,k4] at h1 ⊢
   have hlen:ws.length=5:=by rw [hf.2,e];rfl
   clear hf h3 e k4 h0 k1 k3;obtain ⟨w0,r0,rfl,l0⟩:=vAl hlen;obtain ⟨w1,r1,rfl,l1⟩:=vAl l0;obtain ⟨w2,r2,rfl,l2⟩:=vAl l1;obtain ⟨w3,r3,rfl,l3⟩:=vAl l2;obtain ⟨w4,r4,rfl,l4⟩:=vAl l3;obtain rfl:r4=[]:=List.eq_nil_of_length_eq_zero l4;exact .inr (.inr (.inr (.inl (rk4 row w1 w2 w3 w4 h1))))
 by_cases k5:kdV (wat ws 0)=5
 · have e:fmV ws=[78,65]:=by unfold fmV;rw [if_neg h0,if_neg k1,if_neg k3,if_neg k4,if_pos k5]
   rw [e,k5] at h1 ⊢
   have hlen:ws.length=3:=by rw [hf.2,e];rfl
   clear hf h3 e k5 h0 k1 k3 k4;obtain ⟨w0,r0,rfl,l0⟩:=vAl hlen;obtain ⟨w1,r1,rfl,l1⟩:=vAl l0;obtain ⟨w2,r2,rfl,l2⟩:=vAl l1;obtain rfl:r2=[]:=List.eq_nil_of_length_eq_zero l2;exact .inr (.inr (.inr (.inr (.inl (rk5 row w1 w2 h1)))))
 by_cases k6:kdV (wat ws 0)=6
 · have e:fmV ws=[78,86,73]:=by unfold fmV;rw [if_neg h0,if_neg k1,if_neg k3,if_neg k4,if_neg k5,if_pos k6]
   rw [e,k6] at h1 ⊢
   have hlen:ws.length=4:=by rw [hf.2,e];rfl
   clear hf h3 e k6 h0 k1 k3 k4 k5;obtain ⟨w0,r0,rfl,l0⟩:=vAl hlen;obtain ⟨w1,r1,rfl,l1⟩:=vAl l0;obtain ⟨w2,r2,rfl,l2⟩:=vAl l1;obtain ⟨w3,r3,rfl,l3⟩:=vAl l2;obtain rfl:r3=[]:=List.eq_nil_of_length_eq_zero l3;exact .inr (.inr (.inr (.inr (.inr (.inl (rk6 row w1 w2 w3 h1))))))
 by_cases k7:kdV (wat ws 0)=7
 · have e:fmV ws=[78,73,76]:=by unfold fmV;rw [if_neg h0,if_neg k1,if_neg k3,if_neg k4,if_neg k5,if_neg k6,if_pos k7]
   rw [e,k7] at h1 ⊢
   have hlen:ws.length=4:=by rw [hf.2,e];rfl
   clear hf h3 e k7 h0 k1 k3 k4 k5 k6;obtain ⟨w0,r0,rfl,l0⟩:=vAl hlen;obtain ⟨w1,r1,rfl,l1⟩:=vAl l0;obtain ⟨w2,r2,rfl,l2⟩:=vAl l1;obtain ⟨w3,r3,rfl,l3⟩:=vAl l2;obtain rfl:r3=[]:=List.eq_nil_of_length_eq_zero l3;exact .inr (.inr (.inr (.inr (.inr (.inr (.inl (rk7 row w1 w2 w3 h1)))))))
 by_cases k8:kdV (wat ws 0)=8
 · have e:fmV ws=[78,78,82,82]:=by unfold fmV;rw [if_neg h0,if_neg k1,if_neg k3,if_neg k4,if_neg k5,if_neg k6,if_neg k7,if_pos k8]
   rw [e,k8] at h1 ⊢
   have hlen:ws.length=5:=by rw [hf.2,e];rfl
   clear hf h3 e k8 h0 k1 k3 k4 k5 k6 k7;obtain ⟨w0,r0,rfl,l0⟩:=vAl hlen;obtain ⟨w1,r1,rfl,l1⟩:=vAl l0;obtain ⟨w2,r2,rfl,l2⟩:=vAl l1;obtain ⟨w3,r3,rfl,l3⟩:=vAl l2;obtain ⟨w4,r4,rfl,l4⟩:=vAl l3;obtain rfl:r4=[]:=List.eq_nil_of_length_eq_zero l4;exact .inr (.inr (.inr (.inr (.inr (.inr (.inr (.inl (rk8 row w1 w2 w3 w4 h1))))))))
 by_cases k9:kdV (wat ws 0)=9
 · have e:fmV ws=[78,86,78,83]:=by unfold fmV;rw [if_neg h0,if_neg k1,if_neg k3,if_neg k4,if_neg k5,if_neg k6,if_neg k7,if_neg k8,if_pos k9]
   rw [e,k9] at h1 ⊢
   have hlen:ws.length=5:=by rw [hf.2,e];rfl
   clear hf h3 e k9 h0 k1 k3 k4 k5 k6 k7 k8;obtain ⟨w0,r0,rfl,l0⟩:=vAl hlen;obtain ⟨w1,r1,rfl,l1⟩:=vAl l0;obtain ⟨w2,r2,rfl,l2⟩:=vAl l1;obtain ⟨w3,r3,rfl,l3⟩:=vAl l2;obtain ⟨w4,r4,rfl,l4⟩:=vAl l3;obtain rfl:r4=[]:=List.eq_nil_of_length_eq_zero l4;exact .inr (.inr (.inr (.inr (.inr (.inr (.inr (.inr (rk9 row w1 w2 w3 w4 h1))))))))
 by_cases k2:kdV (wat ws 0)=2
 · by_cases g:ws.length=7∧¬wat ws 4=vAt
   · have e:fmV ws=[78,78,67,75,87,84]:=by unfold fmV;rw [if_neg h0,if_neg k1,if_neg k3,if_neg k4,if_neg k5,if_neg k6,if_neg k7,if_neg k8,if_neg k9,if_pos k2,if_pos g]
     rw [e,k2] at h1 h3 ⊢;have hlen:ws.length=7:=g.1;clear hf e k2 h0 g k1 k3 k4 k5 k6 k7 k8 k9;obtain ⟨w0,r0,rfl,l0⟩:=vAl hlen;obtain ⟨w1,r1,rfl,l1⟩:=vAl l0;obtain ⟨w2,r2,rfl,l2⟩:=vAl l1;obtain ⟨w3,r3,rfl,l3⟩:=vAl l2;obtain ⟨w4,r4,rfl,l4⟩:=vAl l3;obtain ⟨w5,r5,rfl,l5⟩:=vAl l4;obtain ⟨w6,r6,rfl,l6⟩:=vAl l5;obtain rfl:r6=[]:=List.eq_nil_of_length_eq_zero l6;have hk:=rk2 row w1 w2 w3 w4 w5 w6 h1
     have hk2:(vCf [78,78,67,75,87,84] [w1,w2,w3,w4,w5,w6] 0 (LV.new row 2)).2.kind=2:=by obtain ⟨s,p,c,v,t,e,_⟩:=hk;rw [e];rfl
     refine .inr (.inl ⟨hk,?_⟩)
     cases hm:mbB (vCf [78,78,67,75,87,84] [w1,w2,w3,w4,w5,w6] 0 (LV.new row 2)).2 with
     |true=>exact hm
     |false=>exact absurd ⟨hk2,hm⟩ h3
   · by_cases g2:ws.length=6∧¬wat ws 4=vBd
     · have e:fmV ws=[78,78,67,75,86]:=by unfold fmV;rw [if_neg h0,if_neg k1,if_neg k3,if_neg k4,if_neg k5,if_neg k6,if_neg k7,if_neg k8,if_neg k9,if_pos k2,if_neg g,if_pos g2]
       rw [e,k2] at h1 h3 ⊢;have hlen:ws.length=6:=g2.1;clear hf e k2 h0 g g2 k1 k3 k4 k5 k6 k7 k8 k9;obtain ⟨w0,r0,rfl,l0⟩:=vAl hlen;obtain ⟨w1,r1,rfl,l1⟩:=vAl l0;obtain ⟨w2,r2,rfl,l2⟩:=vAl l1;obtain ⟨w3,r3,rfl,l3⟩:=vAl l2;obtain ⟨w4,r4,rfl,l4⟩:=vAl l3;obtain ⟨w5,r5,rfl,l5⟩:=vAl l4;obtain rfl:r5=[]:=List.eq_nil_of_length_eq_zero l5;have hk:=rk0 row w1 w2 w3 w4 w5 h1
       have hk2:(vCf [78,78,67,75,86] [w1,w2,w3,w4,w5] 0 (LV.new row 2)).2.kind=2:=by obtain ⟨s,p,c,v,t,e,_⟩:=hk;rw [e];rfl
       refine .inr (.inl ⟨hk,?_⟩)
       cases hm:mbB (vCf [78,78,67,75,86] [w1,w2,w3,w4,w5] 0 (LV.new row 2)).2 with
       |true=>exact hm
       |false=>exact absurd ⟨hk2,hm⟩ h3
     · exact absurd (show fmV ws=[] by unfold fmV;rw [if_neg h0,if_neg k1,if_neg k3,if_neg k4,if_neg k5,if_neg k6,if_neg k7,if_neg k8,if_neg k9,if_pos k2,if_neg g,if_neg g2]) hf.1
 · exact absurd (show fmV ws=[] by unfold fmV;rw [if_neg h0,if_neg k1,if_neg k3,if_neg k4,if_neg k5,if_neg k6,if_neg k7,if_neg k8,if_neg k9,if_neg k2]) hf.1
end Go.Proofs.YtkpbbfehglihlaaGreatDoor
