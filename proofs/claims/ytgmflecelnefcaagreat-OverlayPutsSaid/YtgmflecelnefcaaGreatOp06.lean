import Derived.Test.YtgmflecelnefcaaGreatOp05
import Derived.StillTailTactics
import Derived.Lib.Builder
set_option maxRecDepth 100000
set_option maxHeartbeats 40000000
namespace Go.Proofs.YtgmflecelnefcaaGreat
open Go.Lib (hid)
open Go.RowKit
theorem sown_set {w:World} {B g n cap:Nat} {e:TypeId} {xs:List Value} (h:w.ownsRow B e 1 (.slice (some ⟨g,0,none⟩) n cap) n xs) (i:Nat) (u:Value):
 (w.setCell ⟨g,i,none⟩ u).ownsRow B e 1 (.slice (some ⟨g,0,none⟩) n cap) n (xs.set i u):=by
 refine ⟨by rw [List.length_set];exact h.1,?_⟩
 rcases h.2 with ⟨hv,_⟩|⟨g',cap',cur,hv,hB,hh,h1,h2,h3,h4⟩
 · cases hv
 · injection hv with e1 e2 e3
   injection e1 with e1
   injection e1 with e1
   subst e1 e3;refine .inr ⟨g,cap,cur.setIfInBounds i u,rfl,hB,?_,h1,h2,by simpa using h3,?_⟩
   · simp [World.setCell,Array.getElem?_modify,hh]
   · rw [Array.toList_setIfInBounds,List.take_set,h4]
theorem sown_form {w:World} {B n:Nat} {e:TypeId} {v:Value} {xs:List Value} (h:w.ownsRow B e 1 v n xs) (hn:0<n):∃g cap,v=.slice (some ⟨g,0,none⟩) n cap∧g<w.heap.size∧n≤cap∧cap≤maxLen:=by
 rcases h.2 with ⟨_,h0⟩|⟨g,cap,cur,rfl,_,hh,h1,h2,_⟩
 · omega
 · refine ⟨g,cap,rfl,?_,h1,h2⟩
   rcases Nat.lt_or_ge g w.heap.size with h'|h'
   · exact h'
   · rw [Array.getElem?_eq_none h'] at hh;cases hh
theorem sown_free {w:World} {B g n cap:Nat} {e:TypeId} {xs:List Value} (h:w.ownsRow B e 1 (.slice (some ⟨g,0,none⟩) n cap) n xs) (i:Nat):w.frozen? ⟨g,i,none⟩=false:=by
 rcases h.2 with ⟨hv,_⟩|⟨g',cap',cur,hv,hB,hh,_⟩
 · cases hv
 · injection hv with e1 e2 e3
   injection e1 with e1
   injection e1 with e1
   subst e1;exact Lib.frozen_of_heap hh i
theorem lastC_set (c:UInt8) (ps:List (List UInt8)) (h:ps≠[]):lastC c ps=ps.set (ps.length - 1) (ps.getD (ps.length - 1) []++[c]):=by
 obtain ⟨qs,p,rfl⟩:∃qs p,ps=qs++[p]:=⟨ps.dropLast,ps.getLast h,(List.dropLast_concat_getLast h).symm⟩;simp [lastC]
theorem vHy (l:List UInt8):1≤(vAh l).length∧(vAh l).length≤l.length+1:=by
 induction l with
 |nil=>simp [vAh]
 |cons c r ih=>
  by_cases hc:c=44
  · subst hc;rw [vBy];simp;omega
  · cases hr:vAh r with
    |nil=>exact absurd hr (vFg r)
    |cons h t=>
     rw [vBp c r h t hc hr];rw [hr] at ih;simp at ih ⊢;omega
theorem splitC_part (l:List UInt8):∀p∈vAh l,p.length≤l.length:=by
 induction l with
 |nil=>intro p hp;simp [vAh] at hp;subst hp;simp
 |cons c r ih=>
  intro p hp
  by_cases hc:c=44
  · subst hc
    rw [vBy] at hp
    rcases List.mem_cons.1 hp with rfl|hp
    · simp
    · have:=ih p hp;simp;omega
  · cases hr:vAh r with
    |nil=>exact absurd hr (vFg r)
    |cons h t=>
     rw [vBp c r h t hc hr] at hp;rw [hr] at ih
     rcases List.mem_cons.1 hp with rfl|hp
     · have:=ih h (by simp);simp;omega
     · have:=ih p (by simp [hp]);simp;omega
theorem txts_set (ps:List (List UInt8)) (i:Nat) (p:List UInt8):(txts ps).set i (.string (str p))=txts (ps.set i p):=by
 unfold txts;rw [List.map_set]
theorem split_any (l:List UInt8) (w:World) (hs:l.length≤1000000):
 Calls Tryz.prog 220 #[.string (str l)] w fun e w'=>∃A n c,e=.returned (.slice A n c)∧SSl w' A n c (vAh l)∧Below w.heap.size w w':=by
 obtain ⟨i0,hi,hz0,hz1,hz2⟩:=info_parts Tryz.info9;have Hi:=hid hi;have Hz0:=hid hz0;have Hz1:=hid hz1;have Hz2:=hid hz2;clear hi hz0 hz1 hz2;have HO:=hid (show (w.alloc (.cells #[.string ⟨#[]⟩] 9)).ownsRow w.heap.size 9 1 (.slice (some ⟨w.heap.size,0,none⟩) 1 1) 1 (txts (vAh [])) from World.ownsRow_lit w #[.string ⟨#[]⟩] 1 (Nat.le_refl _) (by unfold maxLen;omega) rfl)
 go_enter Tryz.func220,Tryz.ntmps220
 go_wp2
 go_loopw [3,4] (fun v i wr=>∃k:Nat,k≤l.length∧i=.int .i64 (k:Int)∧wr.ownsRow w.heap.size 9 1 v (vAh (l.take k)).length (txts (vAh (l.take k)))∧Below w.heap.size w wr) (fun _ i _=>l.length - (intOf i).toNat)
 case atStart=>exact ⟨0,by omega,rfl,HO.out,(Below.refl _ _).alloc (Nat.le_refl _) _⟩
 case round=>
  obtain ⟨k,hk,rfl,hown,hb⟩:=hrel
  have hgB:=fun k (hk:_=some k)=>(hown.lt k hk).1
  have hsl:=vHy (l.take k)
  have htk:(l.take k).length=k:=by rw [List.length_take];omega
  rw [htk] at hsl;obtain ⟨g,cap,rfl,hg1,hnc,hcm⟩:=sown_form hown (by omega);have HG:=hid (hgB g rfl);clear hgB;clear htk
  by_cases hlt:k<l.length
  · have x0:=vAy (str l) k k rfl (by rw [vBa];exact hlt)
    by_cases hc:l.getD k 0=44
    · have S:=hid (show vAh (l.take (k+1))=vAh (l.take k)++[[]] by rw [vFk hlt,hc,vIc])
      have y0:(sb (str l) k == 44)=true:=by rw [sb_str,hc];rfl
      clear hc;go_wp2_with (at_builtin;refine wpList_append_lies _ rfl (.tmp 16) (.tmp 17) 190 rfl w.heap.size 9 i0 (.string ⟨#[]⟩) 1 16 Tryz.underlying190 Hi.out Hz0.out Hz1.out Hz2.out rfl (by decide) _ _ _ (by rfl) (hown.alloc _) ⟨wr.heap.size,0,none⟩ 1 1 [.string ⟨#[]⟩] (by rfl) rfl (World.news_of_block (heap_alloc_new wr _)) (by simp [Value.oneCell']) (by omega) (by unfold maxLen;omega) (by omega) (by have:=hb.size;simp;omega) _ rfl ?_;intro g2 cap2 w3 hown3 hgrow3 _ _)
      have hend:w3.ownsRow w.heap.size 9 1 (.slice (some ⟨g2,0,none⟩) ((vAh (l.take k)).length+1) cap2) (vAh (l.take (k+1))).length (txts (vAh (l.take (k+1))))∧Below w.heap.size w w3:=by
       refine ⟨?_,vDc (hb.alloc hb.size _) (hown.alloc _) hgrow3⟩;rw [S.out,List.length_append];simpa [txts] using hown3
      clear hown hown3 hgrow3 hb;go_wp2
      go_roundw
      case rel=>exact ⟨k+1,by omega,by go_num,hend.1,hend.2⟩
      case measure=>simp [intOf];omega
    · have S:=hid (show vAh (l.take (k+1))=(vAh (l.take k)).set ((vAh (l.take k)).length - 1) ((vAh (l.take k)).getD ((vAh (l.take k)).length - 1) []++[l.getD k 0]) by rw [vFk hlt,vHx _ _ hc,lastC_set _ _ (vFg _)])
      have y0:(sb (str l) k == 44)=false:=by
       rw [sb_str,beq_eq_false_iff_ne];intro e
       have e2:(l.getD k 0).toNat=44:=by omega
       exact hc (by rw [←vFz _ 44 e2];rfl)
      have X1:=hid (extract_one l k hlt);clear hc
      have hcell:wr.cell? ⟨g,(vAh (l.take k)).length - 1,none⟩=some (.string (str ((vAh (l.take k)).getD ((vAh (l.take k)).length - 1) []))):=by
       rw [hown.cellAt _ (by omega)];simp [txts,List.getD,List.getElem?_eq_getElem (show (vAh (l.take k)).length - 1<(vAh (l.take k)).length by omega)]
      have hfz:=sown_free hown ((vAh (l.take k)).length - 1);have HSET:=hid (sown_set hown ((vAh (l.take k)).length - 1) (.string (str ((vAh (l.take k)).getD ((vAh (l.take k)).length - 1) []++[l.getD k 0]))))
      have hpl:((vAh (l.take k)).getD ((vAh (l.take k)).length - 1) []).length≤1000000:=by
       have:=splitC_part (l.take k) _ (List.getElem_mem (show (vAh (l.take k)).length - 1<(vAh (l.take k)).length by omega))
       rw [List.length_take] at this;rw [List.getD,List.getElem?_eq_getElem (show (vAh (l.take k)).length - 1<(vAh (l.take k)).length by omega)]
       show (vAh (l.take k))[(vAh (l.take k)).length - 1].length≤_
       omega
      generalize hm:(vAh (l.take k)).length=m at *;generalize hp:(vAh (l.take k)).getD (m - 1) []=p at *;obtain ⟨hm1,hm2⟩:=hsl;generalize hq:l.getD k 0=q at *
      have hadd:∀W,(Op.stringOp .add (str p) (str [q])).run Tryz.prog W=.ok (.string (str (p++[q]))) W:=fun W=>by
       rw [run_string_add_sum W _ _ (by rw [vBa,vBa];simp;omega),vBn]
      have hm3:(1:Int)≤(m:Int):=by omega
      have d1:IntKind.i64.wrap ((m:Int) - 1)=(m:Int) - 1:=IntWalk.i64_in _ (by omega)
      have d2:(0:Int)≤(m:Int) - 1:=by omega
      have d3:((m:Int) - 1).toNat=m - 1:=by omega
      have d4:(m:Int) - 1<(m:Int):=by omega
      have d5:IntKind.i64.wrap ((k:Int)+1)=(k:Int)+1:=IntWalk.i64_in _ (by omega)
      have d6:((k:Int)+1).toNat=k+1:=by omega
      have d7:(k:Int)≤(k:Int)+1:=by omega
      have d8:(k:Int)+1≤(l.length:Int):=by omega
      have d9:(0:Int)≤(k:Int)+1:=by omega
      have dx:=X1.out;go_wp2
      go_still_tail 17,(by kernel_rfl)
      change wpList _ _ _ _ _ wr.drew
      go_wp2
      have hend:(wr.setCell ⟨g,m - 1,none⟩ (.string (str (p++[q])))).drew.ownsRow w.heap.size 9 1 (.slice (some ⟨g,0,none⟩) m cap) (vAh (l.take (k+1))).length (txts (vAh (l.take (k+1)))):=by
       have h2:=HSET.out;rw [txts_set] at h2;rw [S.out,List.length_set,hm];exact h2
      have hbel:Below w.heap.size w (wr.setCell ⟨g,m - 1,none⟩ (.string (str (p++[q])))).drew:=(hb.setCell (p:=⟨g,m - 1,none⟩) (HG.out) _).drew
      go_roundw
      case rel=>exact ⟨k+1,by omega,by go_num,hend,hbel⟩
      case measure=>simp [intOf];omega
  · obtain rfl:k=l.length:=by omega
    rw [List.take_length] at hown;have hsl:=hid (SSl.of_own hown);go_wp2;go_ret;exact ⟨_,_,_,rfl,by rw [List.take_length];exact hsl.out,hb⟩
open Go.Lib (decDigits itoa atoiAll)
def mid (l:List UInt8) (f j:Nat):List UInt8:=(l.take j).drop f
theorem mid_more {l:List UInt8} {f j:Nat} (h:f≤j) (hj:j<l.length):mid l f (j+1)=mid l f j++[l.getD j 0]:=by
 unfold mid;rw [vFk hj,List.drop_append_of_le_length (by rw [List.length_take];omega)]
theorem mid_len {l:List UInt8} {f j:Nat} (hj:j≤l.length):(mid l f j).length=j - f:=by
 unfold mid;rw [List.length_drop,List.length_take];omega
theorem vGv (l:List UInt8) (f:Nat):mid l f f=[]:=by
 unfold mid;rw [List.drop_eq_nil_of_le (by rw [List.length_take];omega)]
theorem mid_all (l:List UInt8) (f:Nat):mid l f l.length=l.drop f:=by unfold mid;rw [List.take_length]
theorem mid_mem {l:List UInt8} {f j:Nat} (h:f≤j) (hj:j<l.length):l.getD j 0∈l.drop f:=by
 have e:l.getD j 0=(l.drop f)[j - f]'(by rw [List.length_drop];omega):=by
  rw [List.getElem_drop];simp [List.getD,List.getElem?_eq_getElem hj,show f+(j - f)=j by omega]
 rw [e];exact List.getElem_mem _
theorem ten_pow {k:Nat} (h:k≤10):10 ^ k≤10000000000:=by
 have:10 ^ k≤10 ^ 10:=Nat.pow_le_pow_right (by decide) h
 simpa using this
theorem refNumRead_neg (l:List UInt8) (lo hi:Int) (w:World) (hs:l.length≤maxLen) (hd:l.head?=some 45):
 Calls Tryz.prog 203 #[.string (str l),.int .i64 lo,.int .i64 hi] w fun e w'=>e=.returned (.tuple #[.int .i64 (nV l lo hi),.bool (nB l lo hi)])∧Below w.heap.size w w':=by
 unfold maxLen at hs
 have ht:vDf l=l.drop 1:=by unfold vDf;rw [if_pos hd];cases l<;>rfl
 have hl0:0<l.length:=by
  cases l with
  |nil=>cases hd
  |cons c r=>simp
 have y0:=vAy (str l) 0 0 rfl (by rw [vBa];exact hl0)
 have y1:(sb (str l) 0 == 45)=true:=by
  cases l with
  |nil=>cases hd
  |cons c r=>
   have:c=45:=by simpa using hd
   subst this;rfl
 have HH:=hid hd;clear hd;have HT:=hid ht;clear ht
 by_cases h1:l.length<1+1
 · have E:=hid (n_no (vEw (l:=l) (lo:=lo) (hi:=hi) (.inl (by rw [HT.out,List.length_drop];omega))))
   go_enter Tryz.func203,Tryz.ntmps203
   go_wp2;go_ret2;exact ⟨by rw [E.out.1,E.out.2];rfl,Below.refl _ _⟩
 by_cases h2:10+1<l.length
 · have E:=hid (n_no (vEw (l:=l) (lo:=lo) (hi:=hi) (.inr (by rw [HT.out,List.length_drop];omega))))
   go_enter Tryz.func203,Tryz.ntmps203
   go_wp2;go_ret2;exact ⟨by rw [E.out.1,E.out.2];rfl,Below.refl _ _⟩
 go_enter Tryz.func203,Tryz.ntmps203
 go_wp2
 go_loop [9,10] (fun v i=>∃j n:Nat,1≤j∧j≤l.length∧i=.int .i64 (j:Int)∧v=.int .i64 (n:Int)∧n=vGs (mid l 1 j)∧(∀c∈mid l 1 j,isD c=true)) (fun _ i=>l.length - (intOf i).toNat)
 case atStart=>exact ⟨1,0,by omega,by omega,rfl,rfl,by rw [vGv];rfl,fun c h=>by rw [vGv] at h;cases h⟩
 case round=>
  obtain ⟨j,n,hj0,hj,rfl,rfl,hv,hD⟩:=hrel;have hlen:=mid_len (f:=1) hj
  have hn:n<10000000000:=by
   have g1:=valD_lt hD;rw [←hv,hlen] at g1;have g2:=ten_pow (k:=j - 1) (by omega);omega
  clear hlen;have HV:=hid hv;have HD:=hid hD;clear hv hD
  by_cases hlt:j<l.length
  · have x0:=vAy (str l) j j rfl (by rw [vBa];exact hlt)
    have l0:=sb_lo (str l) j;have l1:=sb_hi (str l) j
    by_cases c1:sb (str l) j<48
    · have E:=hid (n_no (vDl (l:=l) (lo:=lo) (hi:=hi) (by rw [HT.out];exact mid_mem hj0 hlt) (vHt (str l) j (by omega))))
      go_wp2;go_ret2;exact ⟨by rw [E.out.1,E.out.2];rfl,Below.refl _ _⟩
    by_cases c2:57<sb (str l) j
    · have E:=hid (n_no (vDl (l:=l) (lo:=lo) (hi:=hi) (by rw [HT.out];exact mid_mem hj0 hlt) (vHt (str l) j (by omega))))
      go_wp2;go_ret2;exact ⟨by rw [E.out.1,E.out.2];rfl,Below.refl _ _⟩
    have hdg:=(isD_sb (str l) j).2 ⟨by omega,by omega⟩;have N:=hid (show ((n * 10+((l.getD j 0).toNat - 48):Nat):Int)=(n:Int) * 10+sb (str l) j - 48 by rw [sb_str] at c1 ⊢;omega);have V:=hid (show n * 10+((l.getD j 0).toNat - 48)=vGs (mid l 1 (j+1)) by rw [mid_more hj0 hlt,vCv,←HV.out])
    have D:=hid (show ∀c∈mid l 1 (j+1),isD c=true by
     rw [mid_more hj0 hlt];intro c hc
     rcases List.mem_append.1 hc with hc|hc
     · exact HD.out c hc
     · rw [List.mem_singleton.1 hc];exact hdg)
    clear hdg;go_wp2
    go_round
    case rel=>exact ⟨j+1,n * 10+((l.getD j 0).toNat - 48),by omega,hlt,by go_num,by rw [N.out],V.out,D.out⟩
    case measure=>simp [intOf];omega
  · have hjl:j=l.length:=by omega
    have EN:=hid (show n=vGs (vDf l) by rw [HV.out,hjl,mid_all,HT.out]);have F:=hid (nF_ref (l:=l) (lo:=lo) (hi:=hi) (by rw [HT.out,List.length_drop];omega) (by rw [HT.out,List.length_drop];omega) (fun c hc=>HD.out c (by rw [hjl,mid_all,←HT.out];exact hc)));have R:=hid (show rN l= -(n:Int) by unfold rN;rw [if_pos HH.out,←EN.out]);clear hjl;have hil:=itoa_len (-(n:Int)) (by omega) (by omega)
    by_cases c1: -(n:Int)<lo
    · have E:=hid (n_no (show nF l lo hi=none by rw [F.out,R.out,if_neg (by omega)]))
      go_wp2;go_ret2;exact ⟨by rw [E.out.1,E.out.2];rfl,Below.refl _ _⟩
    by_cases c2:hi < -(n:Int)
    · have E:=hid (n_no (show nF l lo hi=none by rw [F.out,R.out,if_neg (by omega)]))
      go_wp2;go_ret2;exact ⟨by rw [E.out.1,E.out.2];rfl,Below.refl _ _⟩
    by_cases c3:itoa (-(n:Int))=l
    · have E:=hid (n_yes (show nF l lo hi=some (-(n:Int)) by rw [F.out,R.out,if_pos ⟨by omega,by omega,c3⟩]))
      have t1:(itoa (-(n:Int)) == l)=true:=by simpa using c3
      have t2:(itoa (-(n:Int)) != l)=false:=by simpa using c3
      clear c3;go_wp2_with (go_at_call 192;refine (vAo (-(n:Int)) (by omega) (by omega) _).mono ?_;rintro e w1 ⟨rfl,hb1⟩);go_ret2;exact ⟨by rw [E.out.1,E.out.2];rfl,hb1⟩
    · have E:=hid (n_no (show nF l lo hi=none by rw [F.out,R.out,if_neg (fun h=>c3 h.2.2)]))
      have t1:(itoa (-(n:Int)) == l)=false:=by simpa using c3
      have t2:(itoa (-(n:Int)) != l)=true:=by simpa using c3
      clear c3;go_wp2_with (go_at_call 192;refine (vAo (-(n:Int)) (by omega) (by omega) _).mono ?_;rintro e w1 ⟨rfl,hb1⟩);go_ret2;exact ⟨by rw [E.out.1,E.out.2];rfl,hb1⟩
theorem refNumRead_pos (l:List UInt8) (lo hi:Int) (w:World) (hs:l.length≤maxLen) (hd:l.head?≠some 45):
 Calls Tryz.prog 203 #[.string (str l),.int .i64 lo,.int .i64 hi] w fun e w'=>e=.returned (.tuple #[.int .i64 (nV l lo hi),.bool (nB l lo hi)])∧Below w.heap.size w w':=by
 unfold maxLen at hs
 have ht:vDf l=l.drop 0:=by unfold vDf;rw [if_neg hd];rfl
 have HH:=hid hd;clear hd;have HT:=hid ht;clear ht
 by_cases h1:l.length<1+0
 · have z0:¬0<(l.length:Int):=by omega
   have E:=hid (n_no (vEw (l:=l) (lo:=lo) (hi:=hi) (.inl (by rw [HT.out,List.length_drop];omega))))
   go_enter Tryz.func203,Tryz.ntmps203
   go_wp2;go_ret2;exact ⟨by rw [E.out.1,E.out.2];rfl,Below.refl _ _⟩
 have y0:=vAy (str l) 0 0 rfl (by rw [vBa];omega)
 have y1:(sb (str l) 0 == 45)=false:=by
  cases l with
  |nil=>simp at h1
  |cons c r=>
   rw [beq_eq_false_iff_ne];intro e
   apply HH.out
   rw [sb_str] at e
   have e2:c.toNat=45:=by simp at e;omega
   rw [show c=45 from by rw [←vFz c 45 e2];rfl]
   rfl
 by_cases h2:10+0<l.length
 · have E:=hid (n_no (vEw (l:=l) (lo:=lo) (hi:=hi) (.inr (by rw [HT.out,List.length_drop];omega))))
   go_enter Tryz.func203,Tryz.ntmps203
   go_wp2;go_ret2;exact ⟨by rw [E.out.1,E.out.2];rfl,Below.refl _ _⟩
 go_enter Tryz.func203,Tryz.ntmps203
 go_wp2
 go_loop [9,10] (fun v i=>∃j n:Nat,0≤j∧j≤l.length∧i=.int .i64 (j:Int)∧v=.int .i64 (n:Int)∧n=vGs (mid l 0 j)∧(∀c∈mid l 0 j,isD c=true)) (fun _ i=>l.length - (intOf i).toNat)
 case atStart=>exact ⟨0,0,by omega,by omega,rfl,rfl,by rw [vGv];rfl,fun c h=>by rw [vGv] at h;cases h⟩
 case round=>
  obtain ⟨j,n,hj0,hj,rfl,rfl,hv,hD⟩:=hrel;have hlen:=mid_len (f:=0) hj
  have hn:n<10000000000:=by
   have g1:=valD_lt hD;rw [←hv,hlen] at g1;have g2:=ten_pow (k:=j - 0) (by omega);omega
  clear hlen;have HV:=hid hv;have HD:=hid hD;clear hv hD
  by_cases hlt:j<l.length
  · have x0:=vAy (str l) j j rfl (by rw [vBa];exact hlt)
    have l0:=sb_lo (str l) j;have l1:=sb_hi (str l) j
    by_cases c1:sb (str l) j<48
    · have E:=hid (n_no (vDl (l:=l) (lo:=lo) (hi:=hi) (by rw [HT.out];exact mid_mem hj0 hlt) (vHt (str l) j (by omega))))
      go_wp2;go_ret2;exact ⟨by rw [E.out.1,E.out.2];rfl,Below.refl _ _⟩
    by_cases c2:57<sb (str l) j
    · have E:=hid (n_no (vDl (l:=l) (lo:=lo) (hi:=hi) (by rw [HT.out];exact mid_mem hj0 hlt) (vHt (str l) j (by omega))))
      go_wp2;go_ret2;exact ⟨by rw [E.out.1,E.out.2];rfl,Below.refl _ _⟩
    have hdg:=(isD_sb (str l) j).2 ⟨by omega,by omega⟩;have N:=hid (show ((n * 10+((l.getD j 0).toNat - 48):Nat):Int)=(n:Int) * 10+sb (str l) j - 48 by rw [sb_str] at c1 ⊢;omega);have V:=hid (show n * 10+((l.getD j 0).toNat - 48)=vGs (mid l 0 (j+1)) by rw [mid_more hj0 hlt,vCv,←HV.out])
    have D:=hid (show ∀c∈mid l 0 (j+1),isD c=true by
     rw [mid_more hj0 hlt];intro c hc
     rcases List.mem_append.1 hc with hc|hc
     · exact HD.out c hc
     · rw [List.mem_singleton.1 hc];exact hdg)
    clear hdg;go_wp2
    go_round
    case rel=>exact ⟨j+1,n * 10+((l.getD j 0).toNat - 48),by omega,hlt,by go_num,by rw [N.out],V.out,D.out⟩
    case measure=>simp [intOf];omega
  · have hjl:j=l.length:=by omega
    have EN:=hid (show n=vGs (vDf l) by rw [HV.out,hjl,mid_all,HT.out]);have F:=hid (nF_ref (l:=l) (lo:=lo) (hi:=hi) (by rw [HT.out,List.length_drop];omega) (by rw [HT.out,List.length_drop];omega) (fun c hc=>HD.out c (by rw [hjl,mid_all,←HT.out];exact hc)));have R:=hid (show rN l=(n:Int) by unfold rN;rw [if_neg HH.out,←EN.out]);clear hjl;have hil:=itoa_len ((n:Int)) (by omega) (by omega)
    by_cases c1:(n:Int)<lo
    · have E:=hid (n_no (show nF l lo hi=none by rw [F.out,R.out,if_neg (by omega)]))
      go_wp2;go_ret2;exact ⟨by rw [E.out.1,E.out.2];rfl,Below.refl _ _⟩
    by_cases c2:hi<(n:Int)
    · have E:=hid (n_no (show nF l lo hi=none by rw [F.out,R.out,if_neg (by omega)]))
      go_wp2;go_ret2;exact ⟨by rw [E.out.1,E.out.2];rfl,Below.refl _ _⟩
    by_cases c3:itoa ((n:Int))=l
    · have E:=hid (n_yes (show nF l lo hi=some ((n:Int)) by rw [F.out,R.out,if_pos ⟨by omega,by omega,c3⟩]))
      have t1:(itoa ((n:Int)) == l)=true:=by simpa using c3
      have t2:(itoa ((n:Int)) != l)=false:=by simpa using c3
      clear c3;go_wp2_with (go_at_call 192;refine (vAo ((n:Int)) (by omega) (by omega) _).mono ?_;rintro e w1 ⟨rfl,hb1⟩);go_ret2;exact ⟨by rw [E.out.1,E.out.2];rfl,hb1⟩
    · have E:=hid (n_no (show nF l lo hi=none by rw [F.out,R.out,if_neg (fun h=>c3 h.2.2)]))
      have t1:(itoa ((n:Int)) == l)=false:=by simpa using c3
      have t2:(itoa ((n:Int)) != l)=true:=by simpa using c3
      clear c3;go_wp2_with (go_at_call 192;refine (vAo ((n:Int)) (by omega) (by omega) _).mono ?_;rintro e w1 ⟨rfl,hb1⟩);go_ret2;exact ⟨by rw [E.out.1,E.out.2];rfl,hb1⟩
theorem vCe (l:List UInt8) (lo hi:Int) (w:World) (hs:l.length≤maxLen):
 Calls Tryz.prog 203 #[.string (str l),.int .i64 lo,.int .i64 hi] w fun e w'=>e=.returned (.tuple #[.int .i64 (nV l lo hi),.bool (nB l lo hi)])∧Below w.heap.size w w':=by
 by_cases h:l.head?=some 45
 · exact refNumRead_neg l lo hi w hs h
 · exact refNumRead_pos l lo hi w hs h
open Go.Lib (decDigits)
structure RInv (l:List UInt8) (i a dots:Nat) (part:List UInt8):Prop where
 hdots:dots≤4
 bd:a<256 ^ dots
 hpart:part.length≤3
 le:i≤l.length
 eq:refF l=vDu (l.drop i) a dots part
structure REnd (l:List UInt8) (a dots:Nat):Prop where
 hdots:dots≤4
 bd:a<256 ^ dots
 eq:refF l=if dots=4 then some a else none
theorem vFe {l:List UInt8} {i:Nat} (h:i<l.length):l.drop i=l.getD i 0 :: l.drop (i+1):=by
 rw [List.drop_eq_getElem_cons h];simp [List.getD,List.getElem?_eq_getElem h]
theorem RInv.start (l:List UInt8):RInv l 0 0 0 []:=⟨by omega,by decide,by simp,by omega,rfl⟩
theorem RInv.byte {l:List UInt8} {i a dots:Nat} {part:List UInt8} (h:RInv l i a dots part) (hi:i<l.length) (hc:l.getD i 0≠46) (hp:part.length<3):RInv l (i+1) a dots (part++[l.getD i 0]):=by
 refine ⟨h.hdots,h.bd,by simp;omega,hi,?_⟩;rw [h.eq,vFe hi,vDu,if_neg hc,if_neg (by omega)]
theorem RInv.long {l:List UInt8} {i a dots:Nat} {part:List UInt8} (h:RInv l i a dots part) (hi:i<l.length) (hc:l.getD i 0≠46) (hp:¬part.length<3):rdF l=none:=by
 rw [←refF_eq,h.eq,vFe hi,vDu,if_neg hc,if_pos (by omega)]
theorem RInv.bad {l:List UInt8} {i a dots:Nat} {part:List UInt8} (h:RInv l i a dots part) (hi:i<l.length→l.getD i 0=46) (hb:255<vHh part∨3<dots):rdF l=none:=by
 rw [←refF_eq,h.eq]
 by_cases hl:i<l.length
 · rw [vFe hl,vDu,if_pos (hi hl),if_pos hb]
 · rw [List.drop_eq_nil_of_le (by omega),vDu,if_pos hb]
theorem pow_more {a d dots:Nat} (h:a<256 ^ dots) (hd:d≤255):a * 256+d<256 ^ (dots+1):=by
 have e:256 ^ (dots+1)=256 ^ dots * 256:=Nat.pow_succ ..;rw [e];omega
theorem RInv.dot {l:List UInt8} {i a dots:Nat} {part:List UInt8} (h:RInv l i a dots part) (hi:i<l.length) (hc:l.getD i 0=46) (h1:¬255<vHh part) (h2:¬3<dots):RInv l (i+1) (a * 256+vHh part) (dots+1) []:=by
 refine ⟨by omega,pow_more h.bd (by omega),by simp,hi,?_⟩;rw [h.eq,vFe hi,vDu,if_pos hc,if_neg (by omega)]
theorem RInv.last {l:List UInt8} {i a dots:Nat} {part:List UInt8} (h:RInv l i a dots part) (hi:i=l.length) (h1:¬255<vHh part) (h2:¬3<dots):REnd l (a * 256+vHh part) (dots+1):=by
 refine ⟨by omega,pow_more h.bd (by omega),?_⟩;rw [h.eq,hi,List.drop_eq_nil_of_le (Nat.le_refl _),vDu,if_neg (by omega)]
theorem REnd.no {l:List UInt8} {a dots:Nat} (h:REnd l a dots) (hd:dots≠4):rdF l=none:=by rw [←refF_eq,h.eq,if_neg hd]
theorem REnd.yes {l:List UInt8} {a dots:Nat} (h:REnd l a dots) (hd:dots=4):rdF l=some a∧a<4294967296:=by
 have hb:=h.bd;rw [hd] at hb;exact ⟨by rw [←refF_eq,h.eq,if_pos hd],hb⟩
def RRel (l:List UInt8) (i a dots:Nat) (part:List UInt8):Prop:=RInv l i a dots part∨(i=l.length+1∧part=[]∧REnd l a dots)
theorem pow_dots {a dots:Nat} (h:a<256 ^ dots) (hd:dots≤4):a<4294967296:=Nat.lt_of_lt_of_le h (Nat.le_trans (Nat.pow_le_pow_right (by decide) hd) (by decide))
theorem sb46 (l:List UInt8) (k:Nat):l.getD k 0=46↔sb (str l) k=46:=by
 rw [sb_str]
 constructor
 · intro h;rw [h];rfl
 · intro h
   have:(l.getD k 0).toNat=46:=by omega
   rw [←vFz _ _ this];rfl
theorem vGk (l:List UInt8) (w:World) (hs:l.length<4294967296):
 Calls Tryz.prog 207 #[.string (str l)] w fun e w'=>e=.returned (.tuple #[.int .u32 (rdV l),.bool (rdB l)])∧Below w.heap.size w w':=by
 go_enter Tryz.func207,Tryz.ntmps207
 go_wp2
 go_loopw [4,5,6,7] (fun v d p i wr=>∃(k a dots:Nat) (part:List UInt8),i=.int .i64 (k:Int)∧v=.int .i64 (a:Int)∧d=.int .i64 (dots:Int)∧p=.string (str part)∧RRel l k a dots part∧Below w.heap.size w wr) (fun _ _ _ i _=>l.length+1 - (intOf i).toNat)
 case atStart=>exact ⟨0,0,0,[],rfl,rfl,rfl,rfl,.inl (RInv.start l),Below.refl _ _⟩
 case round=>
  obtain ⟨k,a,dots,part,rfl,rfl,rfl,rfl,hrel,hb⟩:=hrel
  rcases hrel with inv|⟨rfl,rfl,fin⟩
  · have I:=hid inv
    have hk:=inv.le;have hd4:=inv.hdots;have ha:=pow_dots inv.bd inv.hdots;have hp:=inv.hpart;clear inv
    have hkl:(k:Int)≤(l.length:Int):=by omega
    have L0:(0:Int)≤(l.length:Int):=by omega
    by_cases hlt:k<l.length
    · have x0:=vAy (str l) k k rfl (by rw [vBa];exact hlt)
      by_cases hc:sb (str l) k=46
      · have t1:(sb (str l) k != 46)=false:=by simpa using hc
        have HC:=hid ((sb46 l k).2 hc);clear hc
        by_cases h1:255<vHh part
        · have E:=hid (rd_no (I.out.bad (fun _=>HC.out) (.inl h1)))
          go_wp2_with (go_at_call 219;refine (vBq part _ (by unfold maxLen;omega)).mono ?_;rintro e w1 ⟨rfl,hb1⟩);go_ret2;exact ⟨by rw [E.out.1,E.out.2];rfl,vAa hb hb1⟩
        · by_cases h2:3<dots
          · have E:=hid (rd_no (I.out.bad (fun _=>HC.out) (.inr h2)))
            go_wp2_with (go_at_call 219;refine (vBq part _ (by unfold maxLen;omega)).mono ?_;rintro e w1 ⟨rfl,hb1⟩);go_ret2;exact ⟨by rw [E.out.1,E.out.2];rfl,vAa hb hb1⟩
          · have I2:=hid (I.out.dot hlt HC.out h1 h2)
            go_wp2_with (first|(go_at_call 219;(with_reducible refine (vBq part wr (by unfold maxLen;omega)).mono ?_);rintro e w1 ⟨rfl,hb1⟩)|(go_at_call 219;refine (vBq part _ (by unfold maxLen;omega)).mono ?_;rintro e w2 ⟨rfl,hb2⟩))
            go_roundw
            case rel=>exact ⟨k+1,a * 256+vHh part,dots+1,[],by go_num,by go_num,by go_num,rfl,.inl I2.out,vAa (vAa hb hb1) hb2⟩
            case measure=>simp [intOf];omega
      · have t1:(sb (str l) k != 46)=true:=by simpa using hc
        have HC:=hid (show l.getD k 0≠46 from fun h=>hc ((sb46 l k).1 h))
        have EX:=hid (show (str l).extract k (k+1)=str [l.getD k 0] by
         rw [←str_data ((str l).extract k (k+1))];congr 1
         have h1:List.take 1 (l.drop k)=[l.getD k 0]:=by rw [vFe hlt];rfl
         simpa using h1)
        have c1:(k:Int)+1≤(l.length:Int):=by omega
        have c2:(k:Int)≤(k:Int)+1:=by omega
        have c3:(0:Int)≤(k:Int)+1:=by omega
        have c4:((k:Int)+1).toNat=k+1:=by omega
        clear hc
        by_cases hp2:part.length<3
        · have I2:=hid (I.out.byte hlt HC.out hp2)
          go_wp2
          go_roundw
          case rel=>exact ⟨k+1,a,dots,part++[l.getD k 0],by go_num,rfl,rfl,by rw [EX.out,vBn],.inl I2.out,hb⟩
          case measure=>simp [intOf];omega
        · have E:=hid (rd_no (I.out.long hlt HC.out hp2))
          go_wp2;go_ret2;exact ⟨by rw [E.out.1,E.out.2];rfl,hb⟩
    · have hkl2:k=l.length:=by omega
      by_cases h1:255<vHh part
      · have E:=hid (rd_no (I.out.bad (fun h=>absurd h hlt) (.inl h1)))
        clear hkl2;go_wp2_with (go_at_call 219;refine (vBq part _ (by unfold maxLen;omega)).mono ?_;rintro e w1 ⟨rfl,hb1⟩);go_ret2;exact ⟨by rw [E.out.1,E.out.2];rfl,vAa hb hb1⟩
      · by_cases h2:3<dots
        · have E:=hid (rd_no (I.out.bad (fun h=>absurd h hlt) (.inr h2)))
          clear hkl2;go_wp2_with (go_at_call 219;refine (vBq part _ (by unfold maxLen;omega)).mono ?_;rintro e w1 ⟨rfl,hb1⟩);go_ret2;exact ⟨by rw [E.out.1,E.out.2];rfl,vAa hb hb1⟩
        · have I2:=hid (I.out.last hkl2 h1 h2)
          have HK:=hid hkl2;clear hkl2;go_wp2_with (first|(go_at_call 219;(with_reducible refine (vBq part wr (by unfold maxLen;omega)).mono ?_);rintro e w1 ⟨rfl,hb1⟩)|(go_at_call 219;refine (vBq part _ (by unfold maxLen;omega)).mono ?_;rintro e w2 ⟨rfl,hb2⟩))
          go_roundw
          case rel=>exact ⟨k+1,a * 256+vHh part,dots+1,[],by go_num,by go_num,by go_num,rfl,.inr ⟨by rw [HK.out],rfl,I2.out⟩,vAa (vAa hb hb1) hb2⟩
          case measure=>simp [intOf];omega
  · have hd4:=fin.hdots
    have hf:=hid fin
    have hn:¬(((l.length+1:Nat):Int)≤(l.length:Int)):=by omega
    by_cases h4:dots=4
    · have E:=hid (hf.out.yes h4)
      have E2:=hid (rd_yes E.out.1);have ha:=E.out.2
      have t1:((dots:Int) != 4)=false:=by rw [h4];rfl
      clear h4 fin;go_wp2;go_ret2;exact ⟨by rw [E2.out.1,E2.out.2];rfl,hb⟩
    · have E:=hid (rd_no (hf.out.no h4))
      have t1:((dots:Int) != 4)=true:=by simp;omega
      clear h4 fin;go_wp2;go_ret2;exact ⟨by rw [E.out.1,E.out.2];rfl,hb⟩
theorem risIn_no {xs:List Int} {lo hi:Int} (h:risB xs=false):vBs xs lo hi=false:=by simp [vBs,h]
theorem risIn_out {xs:List Int} {lo hi:Int} {k:Nat} (hk:k<xs.length) (h:xs.getD k 0<lo∨hi<xs.getD k 0):vBs xs lo hi=false:=by
 have:inB xs lo hi=false:=by
  cases hx:inB xs lo hi with
  |false=>rfl
  |true=>have:=(inB_iff xs lo hi).1 hx _ (vGc hk);omega
 simp [vBs,this]
theorem risIn_yes {xs:List Int} {lo hi:Int} (h1:1≤xs.length) (h2:xs.length≤16) (hup:Up xs xs.length) (h:∀j,j<xs.length→lo≤xs.getD j 0∧xs.getD j 0≤hi):vBs xs lo hi=true:=by
 have g1:risB xs=true:=(vCd xs).2 ⟨h1,h2,hup⟩
 have g2:inB xs lo hi=true:=(inB_iff xs lo hi).2 fun x hx=>by
  obtain ⟨i,hi',rfl⟩:=mem_getD hx;exact h i hi'
 simp [vBs,g1,g2]
theorem vHo (A:Option Addr) (n c:Nat) (xs:List Int) (lo hi:Int) (w:World) (h:ISl w .i64 A n c xs):
 Calls Tryz.prog 151 #[.slice A n c,.int .i64 lo,.int .i64 hi] w fun e w'=>e=.returned (.bool (vBs xs lo hi))∧Drew w w':=by
 have hle:=h.le;have hcap:=h.cap;have H:=hid h;clear h
 by_cases h1:n<1
 · have E:=hid (risIn_no (lo:=lo) (hi:=hi) (risB_no xs (.inl (by rw [H.out.len];exact h1))))
   go_enter Tryz.func151,Tryz.ntmps151
   go_wp2;go_ret;exact ⟨by rw [E.out];rfl,Drew.refl _⟩
 by_cases h2:16<n
 · have E:=hid (risIn_no (lo:=lo) (hi:=hi) (risB_no xs (.inr (by rw [H.out.len];exact h2))))
   go_enter Tryz.func151,Tryz.ntmps151
   go_wp2;go_ret;exact ⟨by rw [E.out];rfl,Drew.refl _⟩
 obtain ⟨b,off,rfl,hb,hc⟩:=H.out.2.2.2 (by omega);have HC:=hid hc;clear hc
 go_enter Tryz.func151,Tryz.ntmps151
 go_wp2
 go_loopw [7] (fun i wr=>∃k:Nat,k≤n∧i=.int .i64 (k:Int)∧Up xs k∧(∀j,j<k→lo≤xs.getD j 0∧xs.getD j 0≤hi)∧Drew w wr) (fun i _=>n - (intOf i).toNat)
 case atStart=>exact ⟨0,by omega,rfl,Up.zero _,fun j hj=>by omega,Drew.refl _⟩
 case round=>
  obtain ⟨k,hk,rfl,hup,hin,m,rfl⟩:=hrel;have U:=hid hup;have IN:=hid hin;clear hup hin
  by_cases hlt:k<n
  · have c0:w.cell? ⟨b,off+k,none⟩=some (.int .i64 (xs.getD k 0)):=HC.out k hlt
    generalize hx:xs.getD k 0=x at c0;have HX:=hid hx;clear hx
    by_cases d1:x<lo
    · have E:=hid (risIn_out (xs:=xs) (lo:=lo) (hi:=hi) (k:=k) (by rw [H.out.len];exact hlt) (.inl (by rw [HX.out];exact d1)))
      have t1:decide (x<lo)=true:=by simpa using d1
      go_wp2
      go_quiet (fail)
      go_wp2;go_ret;exact ⟨by rw [E.out];rfl,⟨m+nq,by rw [vDd]⟩⟩
    have t1:decide (x<lo)=false:=by simpa using d1
    by_cases d2:hi<x
    · have E:=hid (risIn_out (xs:=xs) (lo:=lo) (hi:=hi) (k:=k) (by rw [H.out.len];exact hlt) (.inr (by rw [HX.out];exact d2)))
      have t2:decide (hi<x)=true:=by simpa using d2
      go_wp2
      go_quiet (fail)
      go_wp2;go_ret;exact ⟨by rw [E.out];rfl,⟨m+nq,by rw [vDd]⟩⟩
    have t2:decide (hi<x)=false:=by simpa using d2
    by_cases k0:0<k
    · have c1:w.cell? ⟨b,off+(k - 1),none⟩=some (.int .i64 (xs.getD (k - 1) 0)):=HC.out (k - 1) (by omega)
      generalize hy:xs.getD (k - 1) 0=y at c1;have HY:=hid hy;clear hy;have k1:1≤k:=k0;have e1:IntKind.i64.wrap ((k:Int) - 1)=(k:Int) - 1:=IntWalk.i64_in _ (by omega)
      have e2:(0:Int)≤(k:Int) - 1:=by omega
      have e3:((k:Int) - 1).toNat=k - 1:=by omega
      have e4:(k:Int) - 1<(n:Int):=by omega
      by_cases d3:x≤y
      · have E:=hid (risIn_no (lo:=lo) (hi:=hi) (risB_down (xs:=xs) (k:=k) k0 (by rw [H.out.len];exact hlt) (by rw [HX.out,HY.out];exact d3)))
        have t3:decide (x≤y)=true:=by simpa using d3
        go_wp2
        go_quiet (fail)
        go_wp2;go_ret;exact ⟨by rw [E.out];rfl,⟨m+nq,by rw [vDd]⟩⟩
      · have E:=hid (U.out.next (by rw [HX.out,HY.out];omega))
        have E2:=hid (show ∀j,j<k+1→lo≤xs.getD j 0∧xs.getD j 0≤hi from fun j hj=>by
         by_cases ej:j=k
         · subst ej;rw [HX.out];exact ⟨by omega,by omega⟩
         · exact IN.out j (by omega))
        have t3:decide (x≤y)=false:=by simpa using d3
        go_wp2
        go_quiet (fail)
        clear e1 e2 e3 e4;go_wp2
        go_roundw
        case rel=>exact ⟨k+1,by omega,by go_num,E.out,E2.out,⟨m+nq,rfl⟩⟩
        case measure=>simp [intOf];omega
    · have E:=hid (show Up xs (k+1) from (Up.one xs).less (by omega))
      have E2:=hid (show ∀j,j<k+1→lo≤xs.getD j 0∧xs.getD j 0≤hi from fun j hj=>by
       obtain rfl:j=k:=by omega
       rw [HX.out];exact ⟨by omega,by omega⟩)
      go_wp2
      go_quiet (fail)
      go_wp2
      go_roundw
      case rel=>exact ⟨k+1,by omega,by go_num,E.out,E2.out,⟨m+nq,rfl⟩⟩
      case measure=>simp [intOf];omega
  · obtain rfl:k=n:=by omega
    have E:=hid (show vBs xs lo hi=true from risIn_yes (by rw [H.out.len];omega) (by rw [H.out.len];omega) (by rw [H.out.len];exact U.out) (by rw [H.out.len];exact IN.out));go_wp2;go_ret;exact ⟨by rw [E.out];rfl,⟨m,rfl⟩⟩
theorem allRd_next {rd:List UInt8→Option Int} {P:List (List UInt8)} {xs:List Int} {k:Nat} {x:Int} (h:vBr rd (P.take k)=some xs) (hk:k<P.length) (hx:rd (P.getD k [])=some x):vBr rd (P.take (k+1))=some (xs++[x]):=by
 rw [List.take_succ_eq_append_getElem hk];refine allRd_snoc h ?_;rw [List.getD,List.getElem?_eq_getElem hk] at hx;exact hx
theorem allRd_fail {rd:List UInt8→Option Int} {P:List (List UInt8)} {k:Nat} (hk:k<P.length) (hx:rd (P.getD k [])=none):vBr rd P=none:=by
 have e:P=P.take k++P.getD k [] :: P.drop (k+1):=by
  have h2:P.drop k=P.getD k [] :: P.drop (k+1):=by
   rw [List.drop_eq_getElem_cons hk,List.getD,List.getElem?_eq_getElem hk];rfl
  rw [←h2,List.take_append_drop]
 rw [e];exact allRd_no hx
theorem allRd_pre {rd:List UInt8→Option Int} {P:List (List UInt8)} {xs ys:List Int} {k:Nat} (h:vBr rd (P.take k)=some xs) (hp:vBr rd P=some ys):∃zs,ys=xs++zs:=by
 rw [←List.take_append_drop k P,allRd_app,h] at hp;simp only [Option.bind_some,Option.map_eq_some_iff] at hp;obtain ⟨zs,_,rfl⟩:=hp;exact ⟨zs,rfl⟩
theorem vFm {xs zs:List Int} {i:Nat} (h:i<xs.length):(xs++zs).getD i 0=xs.getD i 0:=by simp [List.getD,List.getElem?_append_left h]
theorem getD_right {xs zs:List Int} {i:Nat} (h:xs.length≤i):(xs++zs).getD i 0=zs.getD (i - xs.length) 0:=by simp [List.getD,List.getElem?_append_right h]
theorem rlF_down {rd:List UInt8→Option Int} {l:List UInt8} {xs:List Int} {k:Nat} (h:vBr rd ((vAh l).take (k+1))=some xs) (hl:xs.length=k+1) (h0:0<k) (hd:xs.getD k 0≤xs.getD (k - 1) 0):rlF rd l=none:=by
 cases hp:vBr rd (vAh l) with
 |none=>exact rlF_none hp
 |some ys=>
  obtain ⟨zs,rfl⟩:=allRd_pre h hp;refine rlF_no hp (risB_down h0 (by rw [List.length_append];omega) ?_);rw [vFm (by omega),vFm (by omega)];exact hd
theorem inB_all {lo hi:Int} {a:List (List UInt8)} {xs:List Int} (h:vBr (rdI lo hi) a=some xs):inB xs lo hi=true:=
 (inB_iff xs lo hi).2 fun x hx=>by
   obtain ⟨p,hp⟩:=allRd_all h x hx
   have:=vHa.1 hp
   exact ⟨this.2.2.1,this.2.2.2⟩
theorem part_len (l:List UInt8) (k:Nat) (h:k<(vAh l).length):((vAh l).getD k []).length≤l.length:=by
 have:=splitC_part l _ (List.getElem_mem h)
 rw [List.getD,List.getElem?_eq_getElem h];exact this
theorem refItem_no (p:List UInt8) (lo hi:Int) (w:World) (hs:p.length≤maxLen) (h:nF p lo hi=none):
 Calls Tryz.prog 203 #[.string (str p),.int .i64 lo,.int .i64 hi] w fun e w'=>e=.returned (.tuple #[.int .i64 0,.bool false])∧Below w.heap.size w w':=by
 have h2:=vCe p lo hi w hs;rw [(n_no h).1,(n_no h).2] at h2;exact h2
theorem refItem_yes (p:List UInt8) (lo hi:Int) (w:World) (hs:p.length≤maxLen) (x:Int) (h:nF p lo hi=some x):
 Calls Tryz.prog 203 #[.string (str p),.int .i64 lo,.int .i64 hi] w fun e w'=>e=.returned (.tuple #[.int .i64 x,.bool true])∧Below w.heap.size w w':=by
 have h2:=vCe p lo hi w hs;rw [(n_yes h).1,(n_yes h).2] at h2;exact h2
theorem refAddr_no (p:List UInt8) (w:World) (hs:p.length≤1000000) (h:rdA p=none):
 Calls Tryz.prog 207 #[.string (str p)] w fun e w'=>e=.returned (.tuple #[.int .u32 0,.bool false])∧Below w.heap.size w w':=by
 have h2:=vGk p w (by omega);rw [(rdA_no h).1,(rdA_no h).2] at h2;exact h2
theorem vEu (p:List UInt8) (w:World) (hs:p.length≤1000000) (x:Int) (h:rdA p=some x):
 Calls Tryz.prog 207 #[.string (str p)] w fun e w'=>e=.returned (.tuple #[.int .u32 x,.bool true])∧Below w.heap.size w w':=by
 have h2:=vGk p w (by omega);rw [(rdA_yes h).1,(rdA_yes h).2] at h2;exact h2
theorem refReadListF_any (l:List UInt8) (lo hi:Int) (w:World) (hs:l.length≤1000000):
 Calls Tryz.prog 218 #[.string (str l),.int .i64 lo,.int .i64 hi] w (GotLF .i64 (lsV (rdI lo hi) l) (lsB (rdI lo hi) l) w):=by
 obtain ⟨i0,hi',hz0,hz1,hz2⟩:=info_parts Tryz.info3;have Hi:=hid hi';have Hz0:=hid hz0;have Hz1:=hid hz1;have Hz2:=hid hz2;clear hi' hz0 hz1 hz2
 go_enter Tryz.func218,Tryz.ntmps218
 go_wp2_with (go_at_call 220;refine (split_any l _ hs).mono ?_;rintro e w0 ⟨A,n,c,rfl,hsl,hb0⟩);have hP1:=vHy l;have hPn:=hsl.1;have hnc:=hsl.2.1;have hcm:=hsl.2.2.1;unfold maxLen at hcm;obtain ⟨b,off,rfl,hb,hc⟩:=hsl.2.2.2 (by omega);have HC:=hid hc;have HPN:=hid hPn;have PL:=hid (part_len l);rw [hPn] at hP1;clear hc hPn hsl;go_wp2
 go_loopw [9,10] (fun v i wr=>∃(k:Nat) (xs:List Int),k≤n∧i=.int .i64 (k:Int)∧xs.length=k∧vBr (rdI lo hi) ((vAh l).take k)=some xs∧wr.ownsRow w0.heap.size 3 1 v xs.length (xs.map (Value.int .i64))∧Below w0.heap.size w0 wr) (fun _ i _=>n - (intOf i).toNat)
 case atStart=>exact ⟨0,[],by omega,rfl,rfl,rfl,World.ownsRow_nil _ _ _ _,Below.refl _ _⟩
 case round=>
  obtain ⟨k,xs,hk,rfl,hxl,hall,hown,hbw⟩:=hrel;obtain ⟨V,vc,rfl,hvc,hvm⟩:=own_slice hown;have ALL:=hid hall;have HXL:=hid hxl
  have hxn:xs.length≤n:=by omega
  clear hall hxl
  by_cases hlt:k<n
  · have c0:wr.cell? ⟨b,off+k,none⟩=some (.string (str ((vAh l).getD k []))):=(hbw.cell (p:=⟨b,off+k,none⟩) hb).trans (HC.out k hlt)
    have hpl:=PL.out k (by rw [HPN.out];exact hlt);generalize hp:(vAh l).getD k []=p at c0 hpl;have HP:=hid hp;have HPL:=hid (show p.length≤maxLen by unfold maxLen;omega);clear hp
    cases hx:nF p lo hi with
    |none=>
     have E:=hid (rlF_none (rd:=rdI lo hi) (l:=l) (allRd_fail (k:=k) (by rw [HPN.out];exact hlt) (by rw [HP.out];exact hx)));have HX:=hid hx;clear hx;go_wp2_with (go_at_call 203;(with_reducible refine (refItem_no p lo hi _ HPL.out HX.out).mono ?_);rintro e w1 ⟨rfl,hb1⟩);exact bodyPost_ret (v:=.tuple #[.slice none 0 0,.bool false]) (by simp [results,Tryz.results218,go_sem]) rfl (GotLF.none_ E.out (vAa (vAa hb0 hbw) hb1) rfl)
    |some x=>
     have N:=hid (allRd_next (rd:=rdI lo hi) (k:=k) ALL.out (by rw [HPN.out];exact hlt) (by rw [HP.out];exact hx));have HX:=hid hx;clear hx
     go_wp2_with (first
      |(go_at_call 203;(with_reducible refine (refItem_yes p lo hi _ HPL.out x HX.out).mono ?_);rintro e w1 ⟨rfl,hb1⟩;have hown1:=own_keep hown hb1;have hbb:=vAa hbw hb1)
      |(at_builtin;refine wpList_append_lies _ rfl (.tmp 33) (.tmp 35) 34 rfl w0.heap.size 3 i0 (.int .i64 0) 1 8 Tryz.underlying34 Hi.out Hz0.out Hz1.out Hz2.out rfl (by decide) _ _ _ (by rfl) (hown1.alloc _) ⟨w1.heap.size,0,none⟩ 1 1 [.int .i64 x] (by rfl) rfl (World.news_of_block (heap_alloc_new w1 _)) (by simp [Value.oneCell']) (by omega) (by unfold maxLen;omega) (by omega) (by have:=hbb.size;simp;omega) _ rfl ?_;intro g cap w3 hown3 hgrow3 _ _))
     have hend:=list_more hbb hown1 hown3 hgrow3;have hxl2:=hid (show (xs++[x]).length=k+1 by rw [List.length_append,HXL.out];rfl);clear hown hown1 hown3 hgrow3 hb1 hbw hbb;go_wp2
     go_roundw
     case rel=>exact ⟨k+1,xs++[x],by omega,by go_num,hxl2.out,N.out,hend.1,hend.2⟩
     case measure=>simp [intOf];omega
  · obtain rfl:k=n:=by omega
    have AL:=hid (show vBr (rdI lo hi) (vAh l)=some xs by rw [←ALL.out,←HPN.out,List.take_length]);have hsl:=hid (ISl.of_own hown);have hbb:=vAa hb0 hbw
    cases hr:risB xs with
    |false=>
     have E:=hid (rlF_no AL.out hr);have HR:=hid (risIn_no (lo:=lo) (hi:=hi) hr);clear hr;go_wp2_with (go_at_call 151;(with_reducible refine (vHo V xs.length vc xs lo hi _ hsl.out).mono ?_);rintro e w1 ⟨rfl,hd1⟩;rw [HR.out]);exact bodyPost_ret (v:=.tuple #[.slice none 0 0,.bool false]) (by simp [results,Tryz.results218,go_sem]) rfl (GotLF.none_ E.out (vAa hbb hd1.below) rfl)
    |true=>
     have E:=hid (rlF_yes AL.out hr);have HR:=hid (show vBs xs lo hi=true by simp [vBs,hr,inB_all AL.out]);clear hr;go_wp2_with (go_at_call 151;(with_reducible refine (vHo V xs.length vc xs lo hi _ hsl.out).mono ?_);rintro e w1 ⟨rfl,hd1⟩;rw [HR.out]);exact bodyPost_ret (v:=.tuple #[.slice V xs.length vc,.bool true]) (by simp [results,Tryz.results218,go_sem]) rfl (GotLF.some_ E.out (vAa hbb hd1.below) (hsl.out.drew hd1) (fun ad h=>Nat.le_trans hb0.size (own_at hown ad h)) rfl)
theorem vHp (l:List UInt8) (w:World) (hs:l.length≤1000000):
 Calls Tryz.prog 208 #[.string (str l)] w (GotLF .u32 (lsV rdA l) (lsB rdA l) w):=by
 obtain ⟨i0,hi',hz0,hz1,hz2⟩:=info_parts Tryz.info33;have Hi:=hid hi';have Hz0:=hid hz0;have Hz1:=hid hz1;have Hz2:=hid hz2;clear hi' hz0 hz1 hz2
 go_enter Tryz.func208,Tryz.ntmps208
 go_wp2_with (go_at_call 220;refine (split_any l _ hs).mono ?_;rintro e w0 ⟨A,n,c,rfl,hsl,hb0⟩);have hP1:=vHy l;have hPn:=hsl.1;have hnc:=hsl.2.1;have hcm:=hsl.2.2.1;unfold maxLen at hcm;obtain ⟨b,off,rfl,hb,hc⟩:=hsl.2.2.2 (by omega);have HC:=hid hc;have HPN:=hid hPn;have PL:=hid (part_len l);rw [hPn] at hP1;clear hc hPn hsl;go_wp2
 go_loopw [5,6] (fun v i wr=>∃(k:Nat) (xs:List Int),k≤n∧k≤16∧i=.int .i64 (k:Int)∧xs.length=k∧Up xs k∧vBr rdA ((vAh l).take k)=some xs∧wr.ownsRow w0.heap.size 33 1 v xs.length (xs.map (Value.int .u32))∧Below w0.heap.size w0 wr) (fun _ i _=>n - (intOf i).toNat)
 case atStart=>exact ⟨0,[],by omega,by omega,rfl,rfl,Up.zero _,rfl,World.ownsRow_nil _ _ _ _,Below.refl _ _⟩
 case round=>
  obtain ⟨k,xs,hk,hk16,rfl,hxl,hup,hall,hown,hbw⟩:=hrel;obtain ⟨V,vc,rfl,hvc,hvm⟩:=own_slice hown;have HSL:=hid (ISl.of_own (k:=.u32) hown);have ALL:=hid hall;have HXL:=hid hxl;have U:=hid hup
  have hxn:xs.length≤n:=by omega
  clear hall hxl hup
  by_cases hlt:k<n
  · have c0:wr.cell? ⟨b,off+k,none⟩=some (.string (str ((vAh l).getD k []))):=(hbw.cell (p:=⟨b,off+k,none⟩) hb).trans (HC.out k hlt)
    have hpl:=PL.out k (by rw [HPN.out];exact hlt);generalize hp:(vAh l).getD k []=p at c0 hpl;have HP:=hid hp;have HPL:=hid (show p.length≤1000000 by omega);clear hp
    cases hx:rdA p with
    |none=>
     have E:=hid (rlF_none (rd:=rdA) (l:=l) (allRd_fail (k:=k) (by rw [HPN.out];exact hlt) (by rw [HP.out];exact hx)));have HX:=hid hx;clear hx;go_wp2_with (go_at_call 207;(with_reducible refine (refAddr_no p _ HPL.out HX.out).mono ?_);rintro e w1 ⟨rfl,hb1⟩);exact bodyPost_ret (v:=.tuple #[.slice none 0 0,.bool false]) (by simp [results,Tryz.results208,go_sem]) rfl (GotLF.none_ E.out (vAa (vAa hb0 hbw) hb1) rfl)
    |some x=>
     have N:=hid (allRd_next (rd:=rdA) (k:=k) ALL.out (by rw [HPN.out];exact hlt) (by rw [HP.out];exact hx));have HX:=hid hx;clear hx
     by_cases d1:16≤k
     · have E:=hid (rlF_many (rd:=rdA) (l:=l) (by rw [HPN.out];omega))
       go_wp2_with (go_at_call 207;(with_reducible refine (vEu p _ HPL.out x HX.out).mono ?_);rintro e w1 ⟨rfl,hb1⟩);exact bodyPost_ret (v:=.tuple #[.slice none 0 0,.bool false]) (by simp [results,Tryz.results208,go_sem]) rfl (GotLF.none_ E.out (vAa (vAa hb0 hbw) hb1) rfl)
     by_cases k0:0<k
     · have k1:1≤k:=k0
       have k2:(1:Int)≤(k:Int):=by omega
       obtain ⟨vb,voff,rfl,hvb,hvcell⟩:=HSL.out.2.2.2 (by rw [HXL.out];exact k0);have c1:wr.cell? ⟨vb,voff+(k - 1),none⟩=some (.int .u32 (xs.getD (k - 1) 0)):=hvcell (k - 1) (by rw [HXL.out];omega);have C1:=hid (fun (w1:World) (hb1:Below wr.heap.size wr w1)=>(hb1.cell (p:=⟨vb,voff+(k - 1),none⟩) hvb).trans c1);clear hvcell c1
       have e3:((k:Int) - 1).toNat=k - 1:=by omega
       have hxk:(k:Int) - 1<(xs.length:Int):=by have:=HXL.out;omega
       generalize hy:xs.getD (k - 1) 0=y at C1;have HY:=hid hy;clear hy
       have LL:=hid (show (xs++[x]).getD k 0=x∧(xs++[x]).getD (k - 1) 0=y by
        have hl:=HXL.out;refine ⟨?_,?_⟩
        · rw [getD_right (by omega),hl];simp
        · rw [vFm (by omega),HY.out])
       by_cases d2:x≤y
       · have E:=hid (rlF_down (rd:=rdA) (l:=l) (k:=k) N.out (by rw [List.length_append,HXL.out];rfl) k0 (by rw [LL.out.1,LL.out.2];exact d2))
         go_wp2_with (go_at_call 207;(with_reducible refine (vEu p _ HPL.out x HX.out).mono ?_);rintro e w1 ⟨rfl,hb1⟩;have c1:=C1.out w1 hb1);exact bodyPost_ret (v:=.tuple #[.slice none 0 0,.bool false]) (by simp [results,Tryz.results208,go_sem]) rfl (GotLF.none_ E.out (vAa (vAa hb0 hbw) hb1) rfl)
       · have U2:=hid (show Up (xs++[x]) (k+1) from Up.next (fun i h0 h1=>by
          have:=U.out i h0 h1
          rw [vFm (by rw [HXL.out];omega),vFm (by rw [HXL.out];omega)]
          exact this) (by rw [LL.out.1,LL.out.2];omega))
         go_wp2_with (first
          |(go_at_call 207;(with_reducible refine (vEu p _ HPL.out x HX.out).mono ?_);rintro e w1 ⟨rfl,hb1⟩;have hown1:=own_keep hown hb1;have hbb:=vAa hbw hb1;have c1:=C1.out w1 hb1)
          |(at_builtin;refine wpList_append_lies _ rfl (.tmp 44) (.tmp 46) 35 rfl w0.heap.size 33 i0 (.int .u32 0) 1 4 Tryz.underlying35 Hi.out Hz0.out Hz1.out Hz2.out rfl (by decide) _ _ _ (by rfl) (hown1.alloc _) ⟨w1.heap.size,0,none⟩ 1 1 [.int .u32 x] (by rfl) rfl (World.news_of_block (heap_alloc_new w1 _)) (by simp [Value.oneCell']) (by omega) (by unfold maxLen;omega) (by omega) (by have:=hbb.size;simp;omega) _ rfl ?_;intro g cap w3 hown3 hgrow3 _ _))
         have hend:=list_more hbb hown1 hown3 hgrow3;have hxl2:=hid (show (xs++[x]).length=k+1 by rw [List.length_append,HXL.out];rfl);clear hown hown1 hown3 hgrow3 hb1 hbw hbb c1;go_wp2
         go_roundw
         case rel=>exact ⟨k+1,xs++[x],by omega,by omega,by go_num,hxl2.out,U2.out,N.out,hend.1,hend.2⟩
         case measure=>simp [intOf];omega
     · have U2:=hid (show Up (xs++[x]) (k+1) from (Up.one _).less (by omega))
       go_wp2_with (first
        |(go_at_call 207;(with_reducible refine (vEu p _ HPL.out x HX.out).mono ?_);rintro e w1 ⟨rfl,hb1⟩;have hown1:=own_keep hown hb1;have hbb:=vAa hbw hb1)
        |(at_builtin;refine wpList_append_lies _ rfl (.tmp 44) (.tmp 46) 35 rfl w0.heap.size 33 i0 (.int .u32 0) 1 4 Tryz.underlying35 Hi.out Hz0.out Hz1.out Hz2.out rfl (by decide) _ _ _ (by rfl) (hown1.alloc _) ⟨w1.heap.size,0,none⟩ 1 1 [.int .u32 x] (by rfl) rfl (World.news_of_block (heap_alloc_new w1 _)) (by simp [Value.oneCell']) (by omega) (by unfold maxLen;omega) (by omega) (by have:=hbb.size;simp;omega) _ rfl ?_;intro g cap w3 hown3 hgrow3 _ _))
       have hend:=list_more hbb hown1 hown3 hgrow3;have hxl2:=hid (show (xs++[x]).length=k+1 by rw [List.length_append,HXL.out];rfl);clear hown hown1 hown3 hgrow3 hb1 hbw hbb;go_wp2
       go_roundw
       case rel=>exact ⟨k+1,xs++[x],by omega,by omega,by go_num,hxl2.out,U2.out,N.out,hend.1,hend.2⟩
       case measure=>simp [intOf];omega
  · obtain rfl:k=n:=by omega
    have AL:=hid (show vBr rdA (vAh l)=some xs by rw [←ALL.out,←HPN.out,List.take_length]);have E:=hid (rlF_yes AL.out ((vCd xs).2 ⟨by rw [HXL.out];omega,by rw [HXL.out];omega,by rw [HXL.out];exact U.out⟩));have hbb:=vAa hb0 hbw;go_wp2;exact bodyPost_ret (v:=.tuple #[.slice V xs.length vc,.bool true]) (by simp [results,Tryz.results208,go_sem]) rfl (GotLF.some_ E.out hbb HSL.out (fun ad h=>Nat.le_trans hb0.size (own_at hown ad h)) rfl)
open Go.Lib (decDigits)
theorem HS_two (A b x:Nat) (hb:b≤32):HS (A:Int) (b:Int) (x:Int)=(decide (fsN A b≤x) && decide (x≤lsN A b)):=by
 have hr:RT (b:Int)=true:=by rw [RT_iff];omega
 unfold HS;rw [hr,Bool.true_and,Bool.eq_iff_iff];simp only [Int.toNat_natCast,decide_eq_true_eq,Bool.and_eq_true];exact has_iff A b x
theorem FS_no {A B:Int} (h:RT B=false):FS A B=0:=by simp [FS,h]
theorem LS_no {A B:Int} (h:RT B=false):LS A B=0:=by simp [LS,h]
theorem FS_yes (a b:Nat) (hb:b≤32):FS (a:Int) (b:Int)=(fsN a b:Nat):=by
 have hr:RT (b:Int)=true:=by rw [RT_iff];omega
 simp [FS,hr]
theorem LS_yes (a b:Nat) (hb:b≤32):LS (a:Int) (b:Int)=(lsN a b:Nat):=by
 have hr:RT (b:Int)=true:=by rw [RT_iff];omega
 simp [LS,hr]
theorem first_all (A B:Int) (h0:0≤A) (h1:A<4294967296) (w:World):Calls Tryz.prog 186 #[.agg #[.int .u32 A,.int .i64 B]] w fun e w'=>e=.returned (.int .u32 (FS A B))∧Below w.heap.size w w':=by
 cases hr:RT B with
 |false=>rw [FS_no hr];exact first_no A B hr w
 |true=>
  obtain ⟨b,rfl,hb⟩:=RT_nat hr;obtain ⟨a,rfl⟩:=Int.eq_ofNat_of_zero_le h0;rw [FS_yes a b hb];exact first_yes a b (by omega) hb w
theorem last_all (A B:Int) (h0:0≤A) (h1:A<4294967296) (w:World):Calls Tryz.prog 187 #[.agg #[.int .u32 A,.int .i64 B]] w fun e w'=>e=.returned (.int .u32 (LS A B))∧Below w.heap.size w w':=by
 cases hr:RT B with
 |false=>rw [LS_no hr];exact last_no A B hr w
 |true=>
  obtain ⟨b,rfl,hb⟩:=RT_nat hr;obtain ⟨a,rfl⟩:=Int.eq_ofNat_of_zero_le h0;rw [LS_yes a b hb];exact last_yes a b (by omega) hb w
end Go.Proofs.YtgmflecelnefcaaGreat
