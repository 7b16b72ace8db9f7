import Derived.Test.YtjkbmfpomgcblaaGreatDoorKp12
import Derived.Deep.LoopGhost
namespace Go.Proofs.YtjkbmfpomgcblaaGreatDoor
open Go.RowKit
theorem errT.alloc {w:World} (h:errT w) (o:Obj):errT (w.alloc o):=by
 unfold errT at h ⊢
 rw [World.cell?_alloc_lt _ _ _ (lt_of_cell h)];exact h
theorem errT.below {w w':World} (h:errT w) (hb:Below w.heap.size w w'):errT w':=by
 unfold errT at h ⊢
 rw [hb.cell (lt_of_cell h)];exact h
theorem asEnd {w w':World} {B:Nat} {e:Int} {old:Value} (hB:B < w.heap.size) (ht0:w.cell? ⟨B,0,none⟩=some old)
   (h:((asWorld w ⟨B,0,none⟩).alloc (.cells #[.int .i64 e] 44)).setCell ⟨B,0,none⟩ (.int .i64 e)=w'):w'.cell? ⟨B,0,none⟩=some (.int .i64 e)∧Below B w w':=by
 subst h
 have hs:(asWorld w ⟨B,0,none⟩).heap.size=w.heap.size + 1 + 1 + 1:=by simp [asWorld]
 have hc:((asWorld w ⟨B,0,none⟩).alloc (.cells #[.int .i64 e] 44)).cell? ⟨B,0,none⟩=some old:=by
   rw [World.cell?_alloc_lt _ _ _ (by rw [hs];show B < _;omega)]
   unfold asWorld
   rw [World.cell?_alloc_lt _ _ _ (by simp;omega),World.cell?_alloc_lt _ _ _ (by simp;omega),World.cell?_alloc_lt _ _ _ hB]
   exact ht0
 refine ⟨World.cell?_setCell_same _ _ _ hc,?_⟩
 refine Below.setCell ?_ (show B≤B from Nat.le_refl _) _
 refine Below.alloc ?_ (by rw [hs];omega) _
 unfold asWorld
 exact (((Below.refl _ _).alloc (by omega) _).alloc (by simp;omega) _).alloc (by simp;omega) _
def isErr (w:World) (v:Value) (e:Int):Prop :=
 v=.iface 44 (.int .i64 e)∨∃ b off pl,v=.iface 111 (.pointer (some ⟨b,off,none⟩))∧w.cell? ⟨b,off,none⟩=some (.int .i64 e)∧w.cell? ⟨b,off + 1,none⟩=some (.int .i64 pl)
theorem as_err (v:Value) (e:Int) (B:Nat) (old:Value) (w:World) (hg:errT w) (hB:B < w.heap.size) (ht0:w.cell? ⟨B,0,none⟩=some old) (hf0:w.frozen? ⟨B,0,none⟩=false) (hv:isErr w v e) :
   Calls Tryz.prog 86 #[v,.iface 109 (.pointer (some ⟨B,0,none⟩))] w fun ev w'=>ev=.returned (.bool true)∧w'.cell? ⟨B,0,none⟩=some (.int .i64 e)∧Below B w w':=by
 rcases hv with rfl | ⟨b,off,pl,rfl,hp,_⟩
 · exact (as_errno e _ old w hg ht0 hf0).mono fun _ _ ⟨h1,h2⟩=>⟨h1,asEnd hB ht0 h2⟩
 · exact (as_at e b off _ old w hg ht0 hf0 hp).mono fun _ _ ⟨h1,h2⟩=>⟨h1,asEnd hB ht0 h2⟩
theorem isErr.alloc {w:World} {v:Value} {e:Int} (h:isErr w v e) (o:Obj):isErr (w.alloc o) v e:=by
 rcases h with h | ⟨b,off,pl,h1,h2,h3⟩
 · exact .inl h
 · exact .inr ⟨b,off,pl,h1,by rw [World.cell?_alloc_lt _ _ _ (lt_of_cell h2)];exact h2,by rw [World.cell?_alloc_lt _ _ _ (lt_of_cell h3)];exact h3⟩
theorem isErr.below {w w':World} {v:Value} {e:Int} (h:isErr w v e) (hb:Below w.heap.size w w'):isErr w' v e:=by
 rcases h with h | ⟨b,off,pl,h1,h2,h3⟩
 · exact .inl h
 · exact .inr ⟨b,off,pl,h1,by rw [hb.cell (lt_of_cell h2)];exact h2,by rw [hb.cell (lt_of_cell h3)];exact h3⟩
theorem isErr.iface {w:World} {v:Value} {e:Int} (h:isErr w v e):∃ t u,v=.iface t u:=by
 rcases h with h | ⟨b,off,pl,h1,h2,h3⟩
 · exact ⟨_,_,h⟩
 · exact ⟨_,_,h1⟩
set_option maxRecDepth 100000 in
set_option maxHeartbeats 1000000 in
theorem tell_err (v:Value) (e:Int) (w:World) (hg:errT w) (hv:isErr w v e):Calls Tryz.prog 39 #[v] w fun r w'=>r=.returned (.int .i64 e)∧Below w.heap.size w w':=by
 have HG:=Lib.hid (hg.alloc (.cells #[.int .i64 0] 44))
 have HV:=Lib.hid (hv.alloc (.cells #[.int .i64 0] 44))
 obtain ⟨t,u,rfl⟩:=hv.iface
 clear hg hv
 go_enter Tryz.func39,Tryz.ntmps39
 go_wp2_with (go_at_call 86;refine (as_err _ e w.heap.size (.int .i64 0) _ HG.out (by simp) (by simp) (by simp) HV.out).mono ?_;rintro ev w' ⟨rfl,hc,hb⟩;clear HG HV)
 go_ret
 exact ⟨rfl,((Below.refl _ _).alloc (Nat.le_refl _) _).trans (by assumption)⟩
end Go.Proofs.YtjkbmfpomgcblaaGreatDoor
namespace Go.Proofs.YtjkbmfpomgcblaaGreatDoor
open Go.RowKit
theorem get_ok (s:ByteArray) (w:World) (hs:s.size≤maxLen) (n k:Nat) (h:getL s.data.toList=(n,k,0)) :
   Calls Tryz.prog 152 #[.string s] w fun e w'=>e=.returned (.tuple #[.int .u64 n,.int .i64 k,.nilIface])∧w=w' :=
 (get_any s w hs).mono fun e w' ⟨h1,h2⟩=>⟨h1.trans (by rw [h];rfl),h2⟩
theorem get_bad (s:ByteArray) (w:World) (hs:s.size≤maxLen) (e:Nat) (h:getL s.data.toList=(0,0,e)) (he:e≠0) :
   Calls Tryz.prog 152 #[.string s] w fun r w'=>r=.returned (.tuple #[.int .u64 0,.int .i64 0,.iface 44 (.int .i64 e)])∧w=w' :=
 (get_any s w hs).mono fun r w' ⟨h1,h2⟩=>⟨h1.trans (by rw [h];unfold numV errV;rw [if_neg he];rfl),h2⟩
theorem put_nat (n:Nat) (w:World) (h:n≤18446744073709551615) :
   Calls Tryz.prog 89 #[.int .u64 (n:Int)] w fun e w'=>e=.returned (.string ⟨(putL n).toArray⟩)∧Below w.heap.size w w' :=
 put_any (n:Int) w (by omega) (by omega)
end Go.Proofs.YtjkbmfpomgcblaaGreatDoor
namespace Go.Proofs.YtjkbmfpomgcblaaGreatDoor
open Go.RowKit
def placeIs (w:World) (v:Value) (e pl:Int):Prop :=
 (v=.nilIface∧e=0∧pl=-1)∨(v=.iface 44 (.int .i64 e)∧pl=-1)∨∃ b off,v=.iface 111 (.pointer (some ⟨b,off,none⟩))∧w.cell? ⟨b,off,none⟩=some (.int .i64 e)∧w.cell? ⟨b,off + 1,none⟩=some (.int .i64 pl)
theorem placeIs.alloc {w:World} {v:Value} {e pl:Int} (h:placeIs w v e pl) (o:Obj):placeIs (w.alloc o) v e pl:=by
 rcases h with h | h | ⟨b,off,h1,h2,h3⟩
 · exact .inl h
 · exact .inr (.inl h)
 · exact .inr (.inr ⟨b,off,h1,by rw [World.cell?_alloc_lt _ _ _ (lt_of_cell h2)];exact h2,by rw [World.cell?_alloc_lt _ _ _ (lt_of_cell h3)];exact h3⟩)
theorem placeIs.below {w w':World} {v:Value} {e pl:Int} (h:placeIs w v e pl) (hb:Below w.heap.size w w'):placeIs w' v e pl:=by
 rcases h with h | h | ⟨b,off,h1,h2,h3⟩
 · exact .inl h
 · exact .inr (.inl h)
 · exact .inr (.inr ⟨b,off,h1,by rw [hb.cell (lt_of_cell h2)];exact h2,by rw [hb.cell (lt_of_cell h3)];exact h3⟩)
end Go.Proofs.YtjkbmfpomgcblaaGreatDoor
namespace Go.Proofs.YtjkbmfpomgcblaaGreatDoor
open Go.RowKit
def intL (l:List UInt8) (most:Int):Nat×Nat×Nat :=
 if (getL l).2.2≠0 then (0,0,(getL l).2.2) else if most < 0∨most < (getL l).1 then (0,0,2) else getL l
def intV (r:Nat×Nat×Nat):Value:=.tuple #[.int .i64 r.1,.int .i64 r.2.1,errV r.2.2]
theorem intL_bad {l:List UInt8} {most:Int} {e:Nat} (h:getL l=(0,0,e)) (he:e≠0):intL l most=(0,0,e):=by
 unfold intL;rw [h];rw [if_pos (by exact he)]
theorem intL_range {l:List UInt8} {most:Int} {n k:Nat} (h:getL l=(n,k,0)) (hm:most < 0∨most < n):intL l most=(0,0,2):=by
 unfold intL;rw [h];rw [if_neg (by simp),if_pos hm]
theorem intL_ok {l:List UInt8} {most:Int} {n k:Nat} (h:getL l=(n,k,0)) (hm:¬ (most < 0∨most < n)):intL l most=(n,k,0):=by
 unfold intL;rw [h];rw [if_neg (by simp),if_neg hm]
theorem getL_cases (l:List UInt8):(∃ e,getL l=(0,0,e)∧e≠0)∨∃ n k,getL l=(n,k,0)∧n≤18446744073709551615∧1≤k∧k≤10∧k≤l.length:=by
 unfold getL
 split
 · rename_i e he
   refine .inl ⟨e,rfl,?_⟩
   have:=scan_err _ _ _ he
   omega
 · rename_i k hk
   obtain ⟨a,b,c,d⟩:=scan_lt hk
   exact .inr ⟨_,_,rfl,by omega,a,b,c⟩
set_option maxRecDepth 100000 in
set_option maxHeartbeats 1000000 in
theorem int_any (s:ByteArray) (most:Int) (w:World) (hs:s.size≤maxLen) (h0 : -9223372036854775808≤most) (h1:most≤9223372036854775807) :
   Calls Tryz.prog 96 #[.string s,.int .i64 most] w fun r w'=>r=.returned (intV (intL s.data.toList most))∧w=w':=by
 rcases getL_cases s.data.toList with ⟨e,hg,he⟩ | ⟨n,k,hg,hn,hk1,hk2,hk3⟩
 · have HP : Hid (intV (intL s.data.toList most) = .tuple #[.int .i64 0, .int .i64 0, .iface 44 (.int .i64 e)]) := by
     show intV _=_
     rw [intL_bad hg he];unfold intV errV;rw [if_neg he];rfl
   have HG:=Lib.hid hg
   clear hg
   rw [HP.out]
   go_enter Tryz.func96,Tryz.ntmps96
   go_wp2_with (go_at_call 152;refine (get_bad _ _ hs e HG.out he).mono ?_;rintro r w' ⟨rfl,rfl⟩)
   go_ret3
   exact ⟨rfl,rfl⟩
 · by_cases hm:most < 0
   · have HP : Hid (intV (intL s.data.toList most) = .tuple #[.int .i64 0, .int .i64 0, .iface 44 (.int .i64 2)]) := by
       show intV _=_
       rw [intL_range hg (.inl hm)];rfl
     have HG:=Lib.hid hg
     clear hg
     rw [HP.out]
     go_enter Tryz.func96,Tryz.ntmps96
     go_wp2_with (go_at_call 152;refine (get_ok _ _ hs n k HG.out).mono ?_;rintro r w' ⟨rfl,rfl⟩)
     go_ret3
     exact ⟨rfl,rfl⟩
   · have hm':0≤most:=by omega
     by_cases hr:most < (n:Int)
     · have HP : Hid (intV (intL s.data.toList most) = .tuple #[.int .i64 0, .int .i64 0, .iface 44 (.int .i64 2)]) := by
         show intV _=_
         rw [intL_range hg (.inr hr)];rfl
       have HG:=Lib.hid hg
       clear hg hm
       rw [HP.out]
       go_enter Tryz.func96,Tryz.ntmps96
       go_wp2_with (go_at_call 152;refine (get_ok _ _ hs n k HG.out).mono ?_;rintro r w' ⟨rfl,rfl⟩)
       go_ret3
       exact ⟨rfl,rfl⟩
     · have HP : Hid (intV (intL s.data.toList most) = .tuple #[.int .i64 n, .int .i64 k, .nilIface]) := by
         show intV _=_
         rw [intL_ok hg (by omega)];rfl
       have HG:=Lib.hid hg
       have hr':(n:Int)≤most:=by omega
       clear hg hm hr
       rw [HP.out]
       go_enter Tryz.func96,Tryz.ntmps96
       go_wp2_with (go_at_call 152;refine (get_ok _ _ hs n k HG.out).mono ?_;rintro r w' ⟨rfl,rfl⟩)
       go_ret3
       exact ⟨rfl,rfl⟩
end Go.Proofs.YtjkbmfpomgcblaaGreatDoor
namespace Go.Proofs.YtjkbmfpomgcblaaGreatDoor
open Go.RowKit
theorem str_app (a b:List UInt8) (s:ByteArray) (h:s.data.toList=b):(⟨a.toArray⟩:ByteArray) ++ s=⟨(a ++ b).toArray⟩:=by
 apply bs_ext;rw [app_data,h]
theorem put_as (n:Nat) (k:Int) (P:ByteArray) (w:World) (h:n≤1000000) (hk:(n:Int)=k) (hP:⟨(putL n).toArray⟩=P) :
   Calls Tryz.prog 89 #[.int .u64 k] w fun e w'=>e=.returned (.string P)∧Below w.heap.size w w':=by
 subst hk hP
 exact put_nat n w (by omega)
set_option maxRecDepth 100000 in
set_option maxHeartbeats 1000000 in
theorem lzput_any (t:Tok) (w:World) (hf:fine t) (hs:t.own.size≤20000) :
   Calls Tryz.prog 192 #[tokV t] w fun e w'=>e=.returned (.string ⟨(putT t).toArray⟩)∧Below w.heap.size w w':=by
 obtain ⟨s,b,z⟩:=t
 rcases hf with ⟨h1,h2,h3⟩ | ⟨h1,h2,h3,h4,h5⟩
 · simp only at h1 h2 h3 hs
   subst h2 h3
   have e1:=full_b h1
   have HP:Hid ((⟨(putL (2 * s.size)).toArray⟩:ByteArray) ++ s=⟨(putT ⟨s,0,0⟩).toArray⟩):=by
     have h:(⟨(putL (2 * s.size)).toArray⟩:ByteArray) ++ s=⟨(putT ⟨s,0,0⟩).toArray⟩:=by
       rw [putT_own h1];exact str_app _ _ _ rfl
     exact h
   have hl:=putL_le10 (n:=2 * s.size) (by omega)
   have hl2:(⟨(putL (2 * s.size)).toArray⟩:ByteArray).size≤10:=by rw [bs_size];exact hl
   obtain ⟨P,hP⟩:∃ P:ByteArray,⟨(putL (2 * s.size)).toArray⟩=P:=⟨_,rfl⟩
   rw [hP] at HP hl2
   have HPP:=Lib.hid hP
   have k1:IntKind.u64.wrap (s.size:Int)=s.size:=IntWalk.u64_in _ (by omega)
   have k2:IntKind.u64.wrap (2 * (s.size:Int))=2 * s.size:=IntWalk.u64_in _ (by omega)
   have ksz:¬ (9223372036854775807 < P.size + s.size):=by omega
   have c0:(w.alloc (.cells #[.string s,.int .i64 0,.int .i64 0] 224)).cell? ⟨w.heap.size,0,none⟩=some (.string s):=by simp
   have HQ:Hid (2 * s.size≤1000000∧((2 * s.size:Nat):Int)=2 * (s.size:Int)):=⟨by omega,by omega⟩
   clear h1 hl hP
   unfold tokV
   go_enter Tryz.func192,Tryz.ntmps192
   go_wp2
   go_region_held3 (fun w'=>w'.cell? ⟨w.heap.size,0,none⟩=some (.string s)) (first | exact c0 | exact c1) (first | (go_at_call 89;(with_reducible refine (put_as (2 * s.size) _ P _ HQ.out.1 HQ.out.2 HPP.out).mono ?_);rintro r w1 ⟨rfl,hb1⟩;have c1:w1.cell? ⟨w.heap.size,0,none⟩=some (.string s):=(hb1.cell (by simp)).trans c0;have HB1:Hid (Below w.heap.size w w1):=((((Below.refl _ _).alloc (Nat.le_refl _) _).drew).trans (hb1.mono (by simp)));clear hb1))
   go_wp2
   go_ret
   exact ⟨by rw [HP.out];rfl,HB1.out⟩
 · simp only at h1 h2 h3 h4 h5
   obtain ⟨Z,rfl⟩:=Int.eq_ofNat_of_zero_le (show 0≤z by omega)
   obtain ⟨B,rfl⟩:=Int.eq_ofNat_of_zero_le (show 0≤b by omega)
   have e1:=empty_b h1
   have HP:Hid ((⟨(putL (2 * (Z - 4) + 1)).toArray⟩:ByteArray) ++ ⟨(putL (B - 1)).toArray⟩=⟨(putT ⟨s,B,Z⟩).toArray⟩):=by
     have h:(⟨(putL (2 * (Z - 4) + 1)).toArray⟩:ByteArray) ++ ⟨(putL (B - 1)).toArray⟩=⟨(putT ⟨s,B,Z⟩).toArray⟩:=by
       rw [putT_rep h1];exact str_app _ _ _ rfl
     exact h
   have hl:=putL_le10 (n:=2 * (Z - 4) + 1) (by omega)
   have hl':=putL_le10 (n:=B - 1) (by omega)
   have hl2:(⟨(putL (2 * (Z - 4) + 1)).toArray⟩:ByteArray).size≤10:=by rw [bs_size];exact hl
   have hl3:(⟨(putL (B - 1)).toArray⟩:ByteArray).size≤10:=by rw [bs_size];exact hl'
   obtain ⟨P,hP⟩:∃ P:ByteArray,⟨(putL (2 * (Z - 4) + 1)).toArray⟩=P:=⟨_,rfl⟩
   obtain ⟨R,hR⟩:∃ R:ByteArray,⟨(putL (B - 1)).toArray⟩=R:=⟨_,rfl⟩
   rw [hP,hR] at HP
   rw [hP] at hl2
   rw [hR] at hl3
   have HPP:=Lib.hid hP
   have HRR:=Lib.hid hR
   have k1:IntKind.i64.wrap ((Z:Int) - 4)=(Z:Int) - 4:=IntWalk.i64_in _ (by omega)
   have k2:IntKind.u64.wrap ((Z:Int) - 4)=(Z:Int) - 4:=IntWalk.u64_in _ (by omega)
   have k3:IntKind.u64.wrap (2 * ((Z:Int) - 4))=2 * ((Z:Int) - 4):=IntWalk.u64_in _ (by omega)
   have k4:IntKind.u64.wrap (2 * ((Z:Int) - 4) + 1)=2 * ((Z:Int) - 4) + 1:=IntWalk.u64_in _ (by omega)
   have k5:IntKind.i64.wrap ((B:Int) - 1)=(B:Int) - 1:=IntWalk.i64_in _ (by omega)
   have k6:IntKind.u64.wrap ((B:Int) - 1)=(B:Int) - 1:=IntWalk.u64_in _ (by omega)
   have ksz:¬ (9223372036854775807 < P.size + R.size):=by omega
   have c0:(w.alloc (.cells #[.string s,.int .i64 B,.int .i64 Z] 224)).cell? ⟨w.heap.size,1,none⟩=some (.int .i64 B)∧(w.alloc (.cells #[.string s,.int .i64 B,.int .i64 Z] 224)).cell? ⟨w.heap.size,2,none⟩=some (.int .i64 Z):=by simp
   have HQ:Hid (2 * (Z - 4) + 1≤1000000∧((2 * (Z - 4) + 1:Nat):Int)=2 * ((Z:Int) - 4) + 1):=⟨by omega,by omega⟩
   have HQ2:Hid (B - 1≤1000000∧((B - 1:Nat):Int)=(B:Int) - 1):=⟨by omega,by omega⟩
   clear h1 hl hl' hP hR
   unfold tokV
   go_enter Tryz.func192,Tryz.ntmps192
   go_wp2
   go_region_held3 (fun w'=>w'.cell? ⟨w.heap.size,1,none⟩=some (.int .i64 B)∧w'.cell? ⟨w.heap.size,2,none⟩=some (.int .i64 Z)) (first | exact c0 | exact c1 | exact c2) (first | (go_at_call 89;(with_reducible refine (put_as (2 * (Z - 4) + 1) _ P _ HQ.out.1 HQ.out.2 HPP.out).mono ?_);rintro r w1 ⟨rfl,hb1⟩;have c1:w1.cell? ⟨w.heap.size,1,none⟩=some (.int .i64 B)∧w1.cell? ⟨w.heap.size,2,none⟩=some (.int .i64 Z):=⟨(hb1.cell (by simp)).trans c0.1,(hb1.cell (by simp)).trans c0.2⟩;have HB1:Hid (Below w.heap.size w w1):=((((Below.refl _ _).alloc (Nat.le_refl _) _).drew).trans (hb1.mono (by simp)));have HZ1:Hid (w.heap.size < w1.heap.size):=(Nat.lt_of_lt_of_le (by simp) hb1.size);clear hb1) | (go_at_call 89;(with_reducible refine (put_as (B - 1) _ R _ HQ2.out.1 HQ2.out.2 HRR.out).mono ?_);rintro r w2 ⟨rfl,hb2⟩;have c2:w2.cell? ⟨w.heap.size,1,none⟩=some (.int .i64 B)∧w2.cell? ⟨w.heap.size,2,none⟩=some (.int .i64 Z):=⟨(hb2.cell HZ1.out).trans c1.1,(hb2.cell HZ1.out).trans c1.2⟩;have HB2:Hid (Below w.heap.size w w2):=HB1.out.trans (hb2.mono HB1.out.size);clear hb2))
   go_wp2
   go_ret
   exact ⟨by rw [HP.out];rfl,HB2.out⟩
end Go.Proofs.YtjkbmfpomgcblaaGreatDoor
namespace Go.Proofs.YtjkbmfpomgcblaaGreatDoor
open Go.RowKit
theorem atIs.isErr {w:World} {v:Value} {r:Nat×Int} (h:atIs w v r) (h0:r.1≠0):isErr w v (r.1:Nat):=by
 rcases h with ⟨h1,h2⟩ | ⟨_,b,h1,_,h3,h4⟩
 · exact absurd (by rw [h1]) h0
 · exact .inr ⟨b,0,_,h1,h3,h4⟩
def anyErr (w:World) (v:Value) (r:Nat×Int):Prop:=atIs w v r∨(r.1≠0∧r.2=-1∧v=.iface 44 (.int .i64 (r.1:Nat)))
theorem anyErr.below {w w':World} {v:Value} {r:Nat×Int} (h:anyErr w v r) (hb:Below w.heap.size w w'):anyErr w' v r:=by
 rcases h with h | h
 · exact .inl (h.below hb)
 · exact .inr h
theorem anyErr.nil {w:World} {v:Value} {r:Nat×Int} (h:anyErr w v r) (h0:r.1=0):v=.nilIface:=by
 rcases h with (⟨_,h⟩ | ⟨h,_⟩) | ⟨h,_⟩
 · exact h
 · exact absurd h0 h
 · exact absurd h0 h
theorem anyErr.iface {w:World} {v:Value} {r:Nat×Int} (h:anyErr w v r) (h0:r.1≠0):∃ t u,v=.iface t u:=by
 rcases h with (⟨h,_⟩ | ⟨_,b,h,_⟩) | ⟨_,_,h⟩
 · exact absurd (by rw [h]) h0
 · exact ⟨_,_,h⟩
 · exact ⟨_,_,h⟩
theorem anyErr.isErr {w:World} {v:Value} {r:Nat×Int} (h:anyErr w v r) (h0:r.1≠0):isErr w v (r.1:Nat):=by
 rcases h with h | ⟨_,h1,h2⟩
 · exact h.isErr h0
 · exact .inl h2
def VRightIs (w:World) (r:Nat×Int) (e:Ending) (w':World):Prop :=
 ∃ v,e=.returned v∧anyErr w' v r∧Below w.heap.size w w'
theorem undrew3 {w w':World} (h:Below w.drew.heap.size w.drew w'):Below w.heap.size w w':=((Below.refl _ _).drew).trans h
end Go.Proofs.YtjkbmfpomgcblaaGreatDoor
namespace Go.Proofs.YtjkbmfpomgcblaaGreatDoor
open Go.RowKit
def NonB (b:Nat) (w w':World):Prop:=∀ k,k < w.heap.size→k≠b→(∀ cs fz,w.heap[k]? ≠ some (.cells cs 5 fz))→w'.heap[k]? = w.heap[k]?
theorem NonB.of {b:Nat} {w w':World} (h:Below w.heap.size w w'):NonB b w w':=fun k hk _ _=>h.block k hk
theorem NonB.trans {b:Nat} {w w1 w2:World} (h:NonB b w w1) (k:NonB b w1 w2) (hs:w.heap.size≤w1.heap.size):NonB b w w2:=fun i hi hb hu=>by
 have e:=h i hi hb hu
 exact (k i (by omega) hb (fun cs fz=>by rw [e];exact hu cs fz)).trans e
theorem NonB.row {b:Nat} {w w':World} {base size n:Nat} {e:TypeId} {v:Value} {xs:List Value} (h:NonB b w w') (ho:w.ownsRow base e size v n xs) (he:e≠5) (hb:v.ownBlock≠some b):w'.ownsRow base e size v n xs:=by
 have hlt:=World.ownsRow.lt ho
 refine ⟨ho.1,?_⟩
 rcases ho.2 with h1 | ⟨g,cap,cur,hv,hbg,hh,r⟩
 · exact .inl h1
 · subst hv
   refine .inr ⟨g,cap,cur,rfl,hbg,?_,r⟩
   rw [h g (hlt g rfl).2 (fun hc=>hb (by rw [hc];rfl)) (fun cs fz hc=>by rw [hh] at hc;injection hc with hc;injection hc with _ ht;exact he ht)]
   exact hh
theorem copy_any2 (B b:Nat) (l:List UInt8) (w:World) (h:isBld w B b l) :
   Calls Tryz.prog 92 #[.pointer (some ⟨b,0,none⟩)] w fun e w'=>e=.returned (.tuple #[])∧Lib.BuilderAt 64 5 B b (.pointer (some ⟨b,0,none⟩)) (Lib.byteCells l) w'∧Below B w w'∧NonB b w w'∧w'.heap.size=w.heap.size:=by
 rcases h with h | h
 · refine (copy_fresh b w h.cell0 h.shape h.frozen0).mono ?_
   rintro e w' ⟨rfl,rfl⟩
   exact ⟨rfl,h.used _,(Below.refl B w).setCell (p:=⟨b,0,none⟩) h.1 _,fun k _ hk _=>heap_setCell_other _ _ _ _ (fun e=>hk e),by simp⟩
 · refine (copy_used b w h.cell0).mono ?_
   rintro e w' ⟨rfl,rfl⟩
   exact ⟨rfl,h,Below.refl B _,fun k _ _ _=>rfl,rfl⟩
set_option maxRecDepth 100000 in
set_option maxHeartbeats 2000000 in
theorem bld_write2 (B b:Nat) (l:List UInt8) (s:ByteArray) (w:World) (h:isBld w B b l) (hlen:l.length + s.size≤140737488355328) (hBw:B≤w.heap.size) :
   Calls Tryz.prog 44 #[.pointer (some ⟨b,0,none⟩),.string s] w fun e w'=>e=.returned (.tuple #[.int .i64 s.size,.nilIface])∧isBld w' B b (l ++ s.data.toList)∧Below B w w'∧NonB b w w':=by
 obtain ⟨i0,hi,hz0,hz1,hz2⟩:=info_parts info_u8
 have hbl:(Lib.byteCells l).length=l.length:=by simp [Lib.byteCells]
 go_enter Tryz.func44,Tryz.ntmps44
 go_wp2_with fail
 refine (copy_any2 B b l _ h).mono ?_
 rintro e w1 ⟨rfl,h1,hb1,hn1,hs1⟩
 have HN1:=Lib.hid hn1
 have HS1:=Lib.hid hs1
 obtain ⟨hB,v,hbk,hown,hne⟩:=h1
 have c0:w1.cell? ⟨b,0,none⟩=some (.pointer (some ⟨b,0,none⟩)):=by rw [Lib.cell_of_heap hbk];rfl
 have c1:w1.cell? ⟨b,1,none⟩=some v:=by rw [Lib.cell_of_heap hbk];rfl
 clear hn1 hs1
 go_wp2_with (at_builtin;refine Lib.wpList_append_own_string _ rfl _ _ 60 9 rfl B 5 i0 Tryz.underlying60 Tryz.underlying9 hi hz0 hz1 hz2 _ _ _ rfl hown s rfl ?c3 ?c4 ?c5 ?_)
 case c3=>rw [hbl];unfold maxLen;omega
 case c4=>rw [hbl];omega
 case c5=>have:=hb1.size;omega
 intro v' w2 hown' hgrow _
 have hlt:b < w1.heap.size:=by
   rcases Nat.lt_or_ge b w1.heap.size with h' | h'
   · exact h'
   · simp [Array.getElem?_eq_none h'] at hbk
 have hb2:w2.heap[b]? = some (.cells #[.pointer (some ⟨b,0,none⟩),v] 64 (0,0)):=by
   rw [hgrow.block b hlt (fun e=>hne e.symm)]
   exact hbk
 have d0:w2.cell? ⟨b,0,none⟩=some (.pointer (some ⟨b,0,none⟩)):=by rw [Lib.cell_of_heap hb2];rfl
 have d1:w2.cell? ⟨b,1,none⟩=some v:=by rw [Lib.cell_of_heap hb2];rfl
 have f1:w2.frozen? ⟨b,1,none⟩=false:=Lib.frozen_of_heap hb2 1
 obtain ⟨ao,n',cap,rfl⟩:∃ ao n' cap,v'=.slice ao n' cap:=by
   rcases hown'.2 with ⟨hv,_⟩ | ⟨g,cap,cur,hv,_⟩
   · exact ⟨_,_,_,hv⟩
   · exact ⟨_,_,_,hv⟩
 have HO:Hid (w2.ownsRow B 5 1 (.slice ao n' cap) (Lib.byteCells (l ++ s.data.toList)).length (Lib.byteCells (l ++ s.data.toList))):=by
   have h:w2.ownsRow B 5 1 (.slice ao n' cap) (Lib.byteCells (l ++ s.data.toList)).length (Lib.byteCells (l ++ s.data.toList)):=by
     have e:Lib.byteCells (l ++ s.data.toList)=Lib.byteCells l ++ Lib.strCells s:=by simp [Lib.byteCells,Lib.strCells]
     rw [e,List.length_append,Lib.strCells_length,hbl]
     exact hown'
   exact h
 have HNB:Hid (NonB b w1 w2):=Lib.hid (show NonB b w1 w2 from fun k hk hkb hu=>hgrow.block k hk (fun e=>by
   rcases hown.2 with ⟨hv,_⟩ | ⟨g,cap',cur,hv,_,hh,_⟩
   · rw [hv] at e;cases e
   · rw [hv] at e
     have:k=g:=by simpa [Value.ownBlock] using e
     subst this
     exact hu _ _ hh))
 have HSZ:Hid (w1.heap.size≤w2.heap.size):=Lib.hid hgrow.size
 clear hown'
 go_wp2
 go_ret2
 refine ⟨rfl,.inr ?_,?_,?_⟩
 · exact Lib.BuilderAt.put (T:=64) (e:=5) hB hb2 HO.out (by decide)
 · exact (hb1.grown hgrow (by have:=hb1.size;omega) (fun k hk=>(hown.lt k hk).1)).setCell (p:=⟨b,1,none⟩) hB _
 · refine ((HN1.out.trans HNB.out (by rw [HS1.out];exact Nat.le_refl _)).trans (fun k _ hk _=>heap_setCell_other _ _ _ _ (fun e=>hk e)) ?_)
   rw [←HS1.out];exact HSZ.out
end Go.Proofs.YtjkbmfpomgcblaaGreatDoor
namespace Go.Proofs.YtjkbmfpomgcblaaGreatDoor
open Go.RowKit
set_option maxRecDepth 100000 in
set_option maxHeartbeats 2000000 in
theorem vwrong_any (v:Value) (l:List Ent) (k:Nat) (e:Ent) (last:Int) (w:World) (hv:IsEnts w v l) (hl:l.length≤1000000) (he:l[k]? = some e) (h0:(k=0∧last=-1)∨∃ j d,k=j + 1∧l[j]? = some d∧last=d.rep) :
   Calls Tryz.prog 195 #[v,.int .i64 (k:Int)] w fun r w'=>r=.returned (.int .i64 (wrE e last:Nat))∧Below w.heap.size w w':=by
 obtain ⟨a1,c1,rfl,f1⟩:=hv.form
 obtain ⟨n,hn⟩:∃ n,n=l.length:=⟨_,rfl⟩
 have hkl:k < n:=by rw [hn];exact (List.getElem?_eq_some_iff.1 he).1
 rw [←hn] at hl ⊢
 obtain ⟨b1,o1,rfl,hb1,p0,p1⟩:=f1 k e he
 obtain ⟨rep,time⟩:=e
 simp only at p0 p1
 by_cases hr:rep < 0∨200 < rep∨time < 1∨1099511627776 < time
 · have HW:Hid (wrE ⟨rep,time⟩ last=2):=Lib.hid (wrE_range hr)
   have HR:=Lib.hid hr
   clear hv f1 hn he h0 hr
   rw [HW.out]
   by_cases h1:rep < 0
   · go_enter Tryz.func195,Tryz.ntmps195
     go_wp2
     go_ret
     exact ⟨rfl,(Below.refl _ _).alloc (Nat.le_refl _) _⟩
   · by_cases h2:200 < rep
     · go_enter Tryz.func195,Tryz.ntmps195
       go_wp2
       go_ret
       exact ⟨rfl,(Below.refl _ _).alloc (Nat.le_refl _) _⟩
     · by_cases h3:time < 1
       · go_enter Tryz.func195,Tryz.ntmps195
         go_wp2
         go_ret
         exact ⟨rfl,(Below.refl _ _).alloc (Nat.le_refl _) _⟩
       · have h4:1099511627776 < time:=by have:=HR.out;omega
         go_enter Tryz.func195,Tryz.ntmps195
         go_wp2
         go_ret
         exact ⟨rfl,(Below.refl _ _).alloc (Nat.le_refl _) _⟩
 · have g1:0≤rep:=by omega
   have g2:rep≤200:=by omega
   have g3:1≤time:=by omega
   have g4:time≤1099511627776:=by omega
   rcases h0 with ⟨hk0,rfl⟩ | ⟨j,d,rfl,hd,rfl⟩
   · have HW:Hid (wrE ⟨rep,time⟩ (-1)=0):=Lib.hid (wrE_fine hr (by simp only;omega))
     have z1:¬ 0 < k:=by omega
     have z2:decide (0 < k)=false:=by simp;omega
     have z3:decide ((0:Int) < (k:Int))=false:=by simp;omega
     clear hv f1 hn he hr hk0
     rw [HW.out]
     go_enter Tryz.func195,Tryz.ntmps195
     go_wp2
     go_quiet (fail)
     go_wp2
     go_ret
     exact ⟨rfl,below_drewN ((Below.refl _ _).alloc (Nat.le_refl _) _) _⟩
   · obtain ⟨b2,o2,hbo,_,q0,_⟩:=f1 j d hd
     simp only [Option.some.injEq,Addr.mk.injEq,and_true] at hbo
     obtain ⟨rfl,rfl⟩:=hbo
     obtain ⟨last,dt⟩:=d
     simp only at q0
     obtain ⟨k,hk⟩:∃ k,k=j + 1:=⟨_,rfl⟩
     rw [←hk] at he hkl p0 p1 ⊢
     have hj1:(k:Int) - 1=(j:Int):=by omega
     have hj2:IntKind.i64.wrap ((k:Int) - 1)=(j:Int):=by rw [hj1];exact IntWalk.i64_in _ (by omega)
     have hk0:(0:Int) < (k:Int):=by omega
     have z1:0 < k:=by omega
     have z2:decide (0 < k)=true:=by simp;omega
     have z3:decide ((0:Int) < (k:Int))=true:=by simp;omega
     have hjn:(j:Int) < (n:Int):=by omega
     have hjn':j < n:=by omega
     have hj0:(0:Int)≤(j:Int):=by omega
     have q0':=(World.cell?_alloc_lt w (.cells #[.int .i64 rep,.int .i64 time] 74) (⟨b1,o1 + j * 2,none⟩:Addr) hb1).trans q0
     by_cases h5:rep≤last
     · have HW:Hid (wrE ⟨rep,time⟩ (Ent.mk last dt).rep=10):=Lib.hid (wrE_order hr h5)
       clear hv f1 hn he hr hd hk
       rw [HW.out]
       go_enter Tryz.func195,Tryz.ntmps195
       go_wp2
       go_quiet (fail)
       go_wp2
       go_ret
       exact ⟨rfl,below_drewN ((Below.refl _ _).alloc (Nat.le_refl _) _) _⟩
     · have HW:Hid (wrE ⟨rep,time⟩ (Ent.mk last dt).rep=0):=Lib.hid (wrE_fine hr h5)
       clear hv f1 hn he hr hd hk
       rw [HW.out]
       go_enter Tryz.func195,Tryz.ntmps195
       go_wp2
       go_quiet (fail)
       go_wp2
       go_ret
       exact ⟨rfl,below_drewN ((Below.refl _ _).alloc (Nat.le_refl _) _) _⟩
set_option maxRecDepth 100000 in
set_option maxHeartbeats 2000000 in
theorem vright_few (v:Value) (l:List Ent) (w:World) (hv:IsEnts w v l) (hl:l.length≤16) :
   Calls Tryz.prog 143 #[v] w (RightIs w (vr l 0 (-1))):=by
 have HV:=Lib.hid hv
 obtain ⟨a1,c1,rfl,f1⟩:=hv.form
 obtain ⟨n,hn⟩:∃ n,n=l.length:=⟨_,rfl⟩
 rw [←hn] at hl HV ⊢
 have HN:=Lib.hid hn
 clear hv f1 hn
 go_enter Tryz.func143,Tryz.ntmps143
 go_wp2
 go_loopw [11] (fun i wr=>∃ (k:Nat) (last:Int),k≤n∧i=.int .i64 k∧((k=0∧last=-1)∨∃ j d,k=j + 1∧l[j]? = some d∧last=d.rep)∧vr l 0 (-1)=vr (l.drop k) k last∧Below w.heap.size w wr) (fun i _=>n - (intOf i).toNat)
 case atStart=>exact ⟨0,-1,by omega,rfl,.inl ⟨rfl,rfl⟩,rfl,Below.refl _ _⟩
 case round =>
   obtain ⟨k,last,hk,rfl,hla,heq,hbel⟩:=hrel
   have HEQ:=Lib.hid heq
   have HLA:=Lib.hid hla
   have HB:=Lib.hid hbel
   have hzr:=hbel.size
   clear heq hbel hla
   by_cases hlt:k < n
   · have hkl:k < l.length:=by have:=HN.out;omega
     obtain ⟨t,ht⟩:∃ t,l[k]? = some t:=⟨l[k],List.getElem?_eq_getElem hkl⟩
     have hd:l.drop k=t :: l.drop (k + 1):=by
       rw [List.drop_eq_getElem_cons hkl];congr 1
       rw [List.getElem?_eq_getElem hkl] at ht;exact Option.some.inj ht
     have HD:=Lib.hid hd
     have HT:=Lib.hid ht
     obtain ⟨e,he⟩:∃ e,wrE t last=e:=⟨_,rfl⟩
     have HE:=Lib.hid he
     clear ht hkl hd he
     go_wp2_with fail
     refine (vwrong_any _ l k t last _ (HV.out.below (HB.out.mono (Nat.le_refl _))) (by have:=HN.out;omega) HT.out HLA.out).mono ?_
     rintro r w1 ⟨rfl,hb1⟩
     rw [HE.out]
     have HB1:Hid (Below w.heap.size w w1):=HB.out.trans (hb1.mono hzr)
     have hz1:=HB1.out.size
     clear hb1
     by_cases h0:e=0
     · subst h0
       have HN2:Hid (vr l 0 (-1)=vr (l.drop (k + 1)) (k + 1) t.rep):=Lib.hid (show vr l 0 (-1)=vr (l.drop (k + 1)) (k + 1) t.rep by rw [HEQ.out,HD.out,vr_good HE.out])
       go_wp2
       go_roundw
       case rel=>exact ⟨k + 1,t.rep,by omega,by go_num,.inr ⟨k,t,rfl,HT.out,rfl⟩,HN2.out,HB1.out⟩
       case measure=>simp [intOf];omega
     · have HN2:Hid (vr l 0 (-1)=(e,(k:Int))):=Lib.hid (show vr l 0 (-1)=(e,(k:Int)) by rw [HEQ.out,HD.out,vr_bad (by rw [HE.out];exact h0),HE.out])
       have hne:((e:Int) != 0)=true:=by simp;omega
       have H0:=Lib.hid h0
       clear h0
       go_wp2
       go_ret
       rw [HN2.out]
       exact ⟨_,rfl,atIs.new w1 e k H0.out,HB1.out.alloc hz1 _⟩
   · have HN2:Hid (vr l 0 (-1)=(0,-1)):=Lib.hid (show vr l 0 (-1)=(0,-1) by rw [HEQ.out,List.drop_eq_nil_of_le (by have:=HN.out;omega)];rfl)
     go_wp2
     go_ret
     exact ⟨_,rfl,.inl ⟨HN2.out,rfl⟩,HB.out⟩
theorem vright_any (v:Value) (l:List Ent) (w:World) (hv:IsEnts w v l) (hl:l.length≤9223372036854775807) :
   Calls Tryz.prog 143 #[v] w (VRightIs w (vrightF l)):=by
 by_cases h:16 < l.length
 · have HW:Hid (vrightF l=(4,-1)):=Lib.hid (show vrightF l=(4,-1) by unfold vrightF;rw [if_pos h])
   obtain ⟨a1,c1,rfl,_⟩:=hv.form
   obtain ⟨n,hn⟩:∃ n,n=l.length:=⟨_,rfl⟩
   rw [←hn] at h hl ⊢
   clear hv hn
   rw [HW.out]
   have h2:16 < (n:Int):=by omega
   go_enter Tryz.func143,Tryz.ntmps143
   go_wp2
   go_ret
   exact ⟨_,rfl,.inr ⟨by decide,rfl,rfl⟩,Below.refl _ _⟩
 · refine (vright_few v l w hv (by omega)).mono ?_
   rintro e w' ⟨x,h1,h2,h3⟩
   refine ⟨x,h1,.inl ?_,h3⟩
   unfold vrightF;rw [if_neg h];exact h2
end Go.Proofs.YtjkbmfpomgcblaaGreatDoor
