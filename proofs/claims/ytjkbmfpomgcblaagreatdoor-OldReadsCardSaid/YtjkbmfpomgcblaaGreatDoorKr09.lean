import Derived.Test.YtjkbmfpomgcblaaGreatDoorKr08
import Derived.Test.YtjkbmfpomgcblaaGreatDoorKr07
import Derived.IntWalk
import Derived.WalkSpells
namespace Go.Proofs.YtjkbmfpomgcblaaGreatDoor
open Go.RowKit
theorem tell_nil (w:World):Calls Tryz.prog 39 #[.nilIface] w fun e w'=>e=.returned (.int .i64 0)∧w=w':=by
 go_enter Tryz.func39,Tryz.ntmps39
 go_wp2
 go_ret
 exact ⟨rfl,rfl⟩
theorem errT.alloc {w:World} (h:errT w) (o:Obj):errT (w.alloc o):=by
 unfold errT at h ⊢
 rw [World.cell?_alloc_lt _ _ _ (lt_of_cell h)];exact h
theorem errT.below {w w':World} (h:errT w) (hb:Below w.heap.size w w'):errT w':=by
 unfold errT at h ⊢
 rw [hb.cell (lt_of_cell h)];exact h
theorem asEnd {w w':World} {B:Nat} {e:Int} {old:Value} (hB:B < w.heap.size) (ht0:w.cell? ⟨B,0,none⟩=some old)
   (h:((asWorld w ⟨B,0,none⟩).alloc (.cells #[.int .i64 e] 44)).setCell ⟨B,0,none⟩ (.int .i64 e)=w'):w'.cell? ⟨B,0,none⟩=some (.int .i64 e)∧Below B w w':=by
 subst h
 have hs:(asWorld w ⟨B,0,none⟩).heap.size=w.heap.size + 1 + 1 + 1:=by simp [asWorld]
 have hc:((asWorld w ⟨B,0,none⟩).alloc (.cells #[.int .i64 e] 44)).cell? ⟨B,0,none⟩=some old:=by
   rw [World.cell?_alloc_lt _ _ _ (by rw [hs];show B < _;omega)]
   unfold asWorld
   rw [World.cell?_alloc_lt _ _ _ (by simp;omega),World.cell?_alloc_lt _ _ _ (by simp;omega),World.cell?_alloc_lt _ _ _ hB]
   exact ht0
 refine ⟨World.cell?_setCell_same _ _ _ hc,?_⟩
 refine Below.setCell ?_ (show B≤B from Nat.le_refl _) _
 refine Below.alloc ?_ (by rw [hs];omega) _
 unfold asWorld
 exact (((Below.refl _ _).alloc (by omega) _).alloc (by simp;omega) _).alloc (by simp;omega) _
def isErr (w:World) (v:Value) (e:Int):Prop :=
 v=.iface 44 (.int .i64 e)∨∃ b off pl,v=.iface 111 (.pointer (some ⟨b,off,none⟩))∧w.cell? ⟨b,off,none⟩=some (.int .i64 e)∧w.cell? ⟨b,off + 1,none⟩=some (.int .i64 pl)
theorem as_err (v:Value) (e:Int) (B:Nat) (old:Value) (w:World) (hg:errT w) (hB:B < w.heap.size) (ht0:w.cell? ⟨B,0,none⟩=some old) (hf0:w.frozen? ⟨B,0,none⟩=false) (hv:isErr w v e) :
   Calls Tryz.prog 86 #[v,.iface 109 (.pointer (some ⟨B,0,none⟩))] w fun ev w'=>ev=.returned (.bool true)∧w'.cell? ⟨B,0,none⟩=some (.int .i64 e)∧Below B w w':=by
 rcases hv with rfl | ⟨b,off,pl,rfl,hp,_⟩
 · exact (as_errno e _ old w hg ht0 hf0).mono fun _ _ ⟨h1,h2⟩=>⟨h1,asEnd hB ht0 h2⟩
 · exact (as_at e b off _ old w hg ht0 hf0 hp).mono fun _ _ ⟨h1,h2⟩=>⟨h1,asEnd hB ht0 h2⟩
theorem isErr.alloc {w:World} {v:Value} {e:Int} (h:isErr w v e) (o:Obj):isErr (w.alloc o) v e:=by
 rcases h with h | ⟨b,off,pl,h1,h2,h3⟩
 · exact .inl h
 · exact .inr ⟨b,off,pl,h1,by rw [World.cell?_alloc_lt _ _ _ (lt_of_cell h2)];exact h2,by rw [World.cell?_alloc_lt _ _ _ (lt_of_cell h3)];exact h3⟩
theorem isErr.below {w w':World} {v:Value} {e:Int} (h:isErr w v e) (hb:Below w.heap.size w w'):isErr w' v e:=by
 rcases h with h | ⟨b,off,pl,h1,h2,h3⟩
 · exact .inl h
 · exact .inr ⟨b,off,pl,h1,by rw [hb.cell (lt_of_cell h2)];exact h2,by rw [hb.cell (lt_of_cell h3)];exact h3⟩
theorem isErr.iface {w:World} {v:Value} {e:Int} (h:isErr w v e):∃ t u,v=.iface t u:=by
 rcases h with h | ⟨b,off,pl,h1,h2,h3⟩
 · exact ⟨_,_,h⟩
 · exact ⟨_,_,h1⟩
set_option maxRecDepth 100000 in
set_option maxHeartbeats 1000000 in
theorem tell_err (v:Value) (e:Int) (w:World) (hg:errT w) (hv:isErr w v e):Calls Tryz.prog 39 #[v] w fun r w'=>r=.returned (.int .i64 e)∧Below w.heap.size w w':=by
 have HG:=Lib.hid (hg.alloc (.cells #[.int .i64 0] 44))
 have HV:=Lib.hid (hv.alloc (.cells #[.int .i64 0] 44))
 obtain ⟨t,u,rfl⟩:=hv.iface
 clear hg hv
 go_enter Tryz.func39,Tryz.ntmps39
 go_wp2_with (go_at_call 86;refine (as_err _ e w.heap.size (.int .i64 0) _ HG.out (by simp) (by simp) (by simp) HV.out).mono ?_;rintro ev w' ⟨rfl,hc,hb⟩;clear HG HV)
 go_ret
 exact ⟨rfl,((Below.refl _ _).alloc (Nat.le_refl _) _).trans (by assumption)⟩
end Go.Proofs.YtjkbmfpomgcblaaGreatDoor
namespace Go.Proofs.YtjkbmfpomgcblaaGreatDoor
open Go.RowKit
theorem get_ok (s:ByteArray) (w:World) (hs:s.size≤maxLen) (n k:Nat) (h:getL s.data.toList=(n,k,0)) :
   Calls Tryz.prog 152 #[.string s] w fun e w'=>e=.returned (.tuple #[.int .u64 n,.int .i64 k,.nilIface])∧w=w' :=
 (get_any s w hs).mono fun e w' ⟨h1,h2⟩=>⟨h1.trans (by rw [h];rfl),h2⟩
theorem get_bad (s:ByteArray) (w:World) (hs:s.size≤maxLen) (e:Nat) (h:getL s.data.toList=(0,0,e)) (he:e≠0) :
   Calls Tryz.prog 152 #[.string s] w fun r w'=>r=.returned (.tuple #[.int .u64 0,.int .i64 0,.iface 44 (.int .i64 e)])∧w=w' :=
 (get_any s w hs).mono fun r w' ⟨h1,h2⟩=>⟨h1.trans (by rw [h];unfold numV errV;rw [if_neg he];rfl),h2⟩
end Go.Proofs.YtjkbmfpomgcblaaGreatDoor
namespace Go.Proofs.YtjkbmfpomgcblaaGreatDoor
open Go.RowKit
def placeIs (w:World) (v:Value) (e pl:Int):Prop :=
 (v=.nilIface∧e=0∧pl=-1)∨(v=.iface 44 (.int .i64 e)∧pl=-1)∨∃ b off,v=.iface 111 (.pointer (some ⟨b,off,none⟩))∧w.cell? ⟨b,off,none⟩=some (.int .i64 e)∧w.cell? ⟨b,off + 1,none⟩=some (.int .i64 pl)
theorem placeIs.alloc {w:World} {v:Value} {e pl:Int} (h:placeIs w v e pl) (o:Obj):placeIs (w.alloc o) v e pl:=by
 rcases h with h | h | ⟨b,off,h1,h2,h3⟩
 · exact .inl h
 · exact .inr (.inl h)
 · exact .inr (.inr ⟨b,off,h1,by rw [World.cell?_alloc_lt _ _ _ (lt_of_cell h2)];exact h2,by rw [World.cell?_alloc_lt _ _ _ (lt_of_cell h3)];exact h3⟩)
theorem placeIs.below {w w':World} {v:Value} {e pl:Int} (h:placeIs w v e pl) (hb:Below w.heap.size w w'):placeIs w' v e pl:=by
 rcases h with h | h | ⟨b,off,h1,h2,h3⟩
 · exact .inl h
 · exact .inr (.inl h)
 · exact .inr (.inr ⟨b,off,h1,by rw [hb.cell (lt_of_cell h2)];exact h2,by rw [hb.cell (lt_of_cell h3)];exact h3⟩)
set_option maxRecDepth 100000 in
set_option maxHeartbeats 1000000 in
theorem place_nil (w:World):Calls Tryz.prog 69 #[.nilIface] w fun r w'=>r=.returned (.tuple #[.int .i64 0,.int .i64 (-1)])∧w=w':=by
 go_enter Tryz.func69,Tryz.ntmps69
 go_wp2_with (go_at_call 39;refine (tell_nil _).mono ?_;rintro e w' ⟨rfl,rfl⟩)
 refine wp_loop_rounds 1 ?_
 rw [rounds_succ]
 go_wp2
 go_ret2
 exact ⟨rfl,rfl⟩
set_option maxRecDepth 100000 in
set_option maxHeartbeats 1000000 in
theorem place_errno (e:Int) (w:World) (hg:errT w):Calls Tryz.prog 69 #[.iface 44 (.int .i64 e)] w fun r w'=>r=.returned (.tuple #[.int .i64 e,.int .i64 (-1)])∧Below w.heap.size w w':=by
 have nU:=As.noUnwrapE
 have nA:=As.noAtE
 have HG:=Lib.hid hg
 clear hg
 go_enter Tryz.func69,Tryz.ntmps69
 go_wp2_with (go_at_call 39;refine (tell_err _ e _ HG.out (.inl rfl)).mono ?_;rintro r w' ⟨rfl,hb⟩)
 refine wp_loop_rounds 1 ?_
 rw [rounds_succ]
 go_wp2
 go_ret2
 exact ⟨rfl,by assumption⟩
set_option maxRecDepth 100000 in
set_option maxHeartbeats 1000000 in
theorem place_at (e pl:Int) (b off:Nat) (w:World) (hg:errT w) (hc0:w.cell? ⟨b,off,none⟩=some (.int .i64 e)) (hc1:w.cell? ⟨b,off + 1,none⟩=some (.int .i64 pl)) :
   Calls Tryz.prog 69 #[.iface 111 (.pointer (some ⟨b,off,none⟩))] w fun r w'=>r=.returned (.tuple #[.int .i64 e,.int .i64 pl])∧Below w.heap.size w w':=by
 have iA:=As.isAtA
 have HG:=Lib.hid hg
 have HV:Hid (isErr w (.iface 111 (.pointer (some ⟨b,off,none⟩))) e):=.inr ⟨b,off,pl,rfl,hc0,hc1⟩
 have H1:=Lib.hid hc1
 have hlt:=lt_of_cell hc0
 clear hg hc0 hc1
 go_enter Tryz.func69,Tryz.ntmps69
 go_wp2_with fail
 refine (tell_err _ e _ HG.out HV.out).mono ?_
 rintro r w1 ⟨rfl,hb⟩
 have hc1:w1.cell? ⟨b,off + 1,none⟩=some (.int .i64 pl):=(hb.cell hlt).trans H1.out
 have HB:=Lib.hid hb
 clear hb
 go_wp2
 refine wp_loop_rounds 1 ?_
 rw [rounds_succ]
 go_wp2
 go_quiet (fail)
 go_wp2
 go_ret2
 exact ⟨rfl,below_drewN HB.out _⟩
theorem place_any (v:Value) (e pl:Int) (w:World) (hg:errT w) (h:placeIs w v e pl) :
   Calls Tryz.prog 69 #[v] w fun r w'=>r=.returned (.tuple #[.int .i64 e,.int .i64 pl])∧Below w.heap.size w w':=by
 rcases h with ⟨rfl,rfl,rfl⟩ | ⟨rfl,rfl⟩ | ⟨b,off,rfl,h0,h1⟩
 · exact (place_nil w).mono fun _ _ ⟨h1,h2⟩=>⟨h1,h2 ▸ Below.refl _ _⟩
 · exact place_errno e w hg
 · exact place_at e pl b off w hg h0 h1
set_option maxRecDepth 100000 in
theorem placed_ok (v:Value) (e pl:Int) (w:World) (hg:errT w) (h:placeIs w v e pl) :
   Calls Tryz.prog 31 #[v,.agg #[.int .i64 e,.int .i64 pl]] w fun r w'=>r=.returned (.bool true)∧Below w.heap.size w w':=by
 have HG:=Lib.hid (hg.alloc (.cells #[.int .i64 e,.int .i64 pl] 46))
 have HP:=Lib.hid (h.alloc (.cells #[.int .i64 e,.int .i64 pl] 46))
 clear hg h
 go_enter Tryz.func31,Tryz.ntmps31
 go_wp2_with fail
 refine (place_any _ _ _ _ HG.out HP.out).mono ?_
 rintro r w1 ⟨rfl,hb⟩
 have c0:w1.cell? ⟨w.heap.size,0,none⟩=some (.int .i64 e):=(hb.cell (by simp)).trans (by simp)
 have c1:w1.cell? ⟨w.heap.size,1,none⟩=some (.int .i64 pl):=(hb.cell (by simp)).trans (by simp)
 have HB:Hid (Below w.heap.size w w1):=((Below.refl _ _).alloc (Nat.le_refl _) _).trans (hb.mono (by simp))
 clear hb HG HP
 go_wp2
 go_ret
 exact ⟨rfl,HB.out⟩
end Go.Proofs.YtjkbmfpomgcblaaGreatDoor
namespace Go.Proofs.YtjkbmfpomgcblaaGreatDoor
open Go.RowKit
def intL (l:List UInt8) (most:Int):Nat×Nat×Nat :=
 if (getL l).2.2≠0 then (0,0,(getL l).2.2) else if most < 0∨most < (getL l).1 then (0,0,2) else getL l
def intV (r:Nat×Nat×Nat):Value:=.tuple #[.int .i64 r.1,.int .i64 r.2.1,errV r.2.2]
def intR (r:Nat×Nat×Nat):Value:=.tuple #[.int .i64 r.1,.int .i64 r.2.1,.int .i64 r.2.2]
theorem intL_bad {l:List UInt8} {most:Int} {e:Nat} (h:getL l=(0,0,e)) (he:e≠0):intL l most=(0,0,e):=by
 unfold intL;rw [h];rw [if_pos (by exact he)]
theorem intL_range {l:List UInt8} {most:Int} {n k:Nat} (h:getL l=(n,k,0)) (hm:most < 0∨most < n):intL l most=(0,0,2):=by
 unfold intL;rw [h];rw [if_neg (by simp),if_pos hm]
theorem intL_ok {l:List UInt8} {most:Int} {n k:Nat} (h:getL l=(n,k,0)) (hm:¬ (most < 0∨most < n)):intL l most=(n,k,0):=by
 unfold intL;rw [h];rw [if_neg (by simp),if_neg hm]
theorem getL_cases (l:List UInt8):(∃ e,getL l=(0,0,e)∧e≠0)∨∃ n k,getL l=(n,k,0)∧n≤18446744073709551615∧1≤k∧k≤10∧k≤l.length:=by
 unfold getL
 split
 · rename_i e he
   refine .inl ⟨e,rfl,?_⟩
   have:=scan_err _ _ _ he
   omega
 · rename_i k hk
   obtain ⟨a,b,c,d⟩:=scan_lt hk
   exact .inr ⟨_,_,rfl,by omega,a,b,c⟩
set_option maxRecDepth 100000 in
set_option maxHeartbeats 1000000 in
theorem int_any (s:ByteArray) (most:Int) (w:World) (hs:s.size≤maxLen) (h0 : -9223372036854775808≤most) (h1:most≤9223372036854775807) :
   Calls Tryz.prog 96 #[.string s,.int .i64 most] w fun r w'=>r=.returned (intV (intL s.data.toList most))∧w=w':=by
 rcases getL_cases s.data.toList with ⟨e,hg,he⟩ | ⟨n,k,hg,hn,hk1,hk2,hk3⟩
 · have HP : Hid (intV (intL s.data.toList most) = .tuple #[.int .i64 0, .int .i64 0, .iface 44 (.int .i64 e)]) := by
     show intV _=_
     rw [intL_bad hg he];unfold intV errV;rw [if_neg he];rfl
   have HG:=Lib.hid hg
   clear hg
   rw [HP.out]
   go_enter Tryz.func96,Tryz.ntmps96
   go_wp2_with (go_at_call 152;refine (get_bad _ _ hs e HG.out he).mono ?_;rintro r w' ⟨rfl,rfl⟩)
   go_ret3
   exact ⟨rfl,rfl⟩
 · by_cases hm:most < 0
   · have HP : Hid (intV (intL s.data.toList most) = .tuple #[.int .i64 0, .int .i64 0, .iface 44 (.int .i64 2)]) := by
       show intV _=_
       rw [intL_range hg (.inl hm)];rfl
     have HG:=Lib.hid hg
     clear hg
     rw [HP.out]
     go_enter Tryz.func96,Tryz.ntmps96
     go_wp2_with (go_at_call 152;refine (get_ok _ _ hs n k HG.out).mono ?_;rintro r w' ⟨rfl,rfl⟩)
     go_ret3
     exact ⟨rfl,rfl⟩
   · have hm':0≤most:=by omega
     by_cases hr:most < (n:Int)
     · have HP : Hid (intV (intL s.data.toList most) = .tuple #[.int .i64 0, .int .i64 0, .iface 44 (.int .i64 2)]) := by
         show intV _=_
         rw [intL_range hg (.inr hr)];rfl
       have HG:=Lib.hid hg
       clear hg hm
       rw [HP.out]
       go_enter Tryz.func96,Tryz.ntmps96
       go_wp2_with (go_at_call 152;refine (get_ok _ _ hs n k HG.out).mono ?_;rintro r w' ⟨rfl,rfl⟩)
       go_ret3
       exact ⟨rfl,rfl⟩
     · have HP : Hid (intV (intL s.data.toList most) = .tuple #[.int .i64 n, .int .i64 k, .nilIface]) := by
         show intV _=_
         rw [intL_ok hg (by omega)];rfl
       have HG:=Lib.hid hg
       have hr':(n:Int)≤most:=by omega
       clear hg hm hr
       rw [HP.out]
       go_enter Tryz.func96,Tryz.ntmps96
       go_wp2_with (go_at_call 152;refine (get_ok _ _ hs n k HG.out).mono ?_;rintro r w' ⟨rfl,rfl⟩)
       go_ret3
       exact ⟨rfl,rfl⟩
end Go.Proofs.YtjkbmfpomgcblaaGreatDoor
namespace Go.Proofs.YtjkbmfpomgcblaaGreatDoor
open Go.RowKit
set_option maxRecDepth 100000 in
set_option maxHeartbeats 1200000 in
theorem rversion_as (s I:ByteArray) (v e:Nat) (w:World) (hs:s.size≤1000000) (h:opnF s.data.toList=(v,I.data.toList,e)) :
   Calls Tryz.prog 70 #[.string s] w fun r w'=>r=.returned (.tuple #[.int .i64 (v:Int),.int .i64 (e:Int)])∧Below w.heap.size w w':=by
 have hl:s.size=s.data.toList.length:=size_data s
 by_cases h8:s.size < 8
 · rw [opn_few (by rw [←hl];exact h8)] at h
   injection h with h1 h
   injection h with hI h2
   clear hI
   subst h1 h2
   have h8i:(s.size:Int) < 8:=by omega
   clear hl
   go_enter Tryz.func70,Tryz.ntmps70
   go_wp2
   go_ret2
   exact ⟨rfl,Below.refl _ _⟩
 · have h8l:¬ s.data.toList.length < 8:=by rw [←hl];exact h8
   have h8i:8≤(s.size:Int):=by omega
   by_cases hp:s.data.toList.take 2=[80,84]
   · have HPB:Hid (Lib.hasPrefix s.data.toList [80,84]=true):=Lib.hid ((pre_two _).2 hp)
     have hsz:2 < s.size:=by omega
     obtain ⟨c, hc⟩ : ∃ c : UInt8, s[2]'hsz = c := ⟨_, rfl⟩
     have hwr:wrap64 (c.toNat:Int)=(c.toNat:Int):=IntWalk.wrap64_in _ (by have:=c.toNat_lt;omega)
     have hcd:s.data.toList.getD 2 0=c:=by
       rw [List.getD_eq_getElem?_getD,List.getElem?_eq_getElem (by omega),Option.getD_some,←hc];rfl
     by_cases hv:c.toNat < 1∨3 < c.toNat
     · rw [opn_none h8l hp (by rw [hcd];exact hv)] at h
       injection h with h1 h
       injection h with hI h2
       clear hI
       subst h1 h2
       have hvs:((c.toNat:Int) < 1)∨(1≤(c.toNat:Int)∧3 < (c.toNat:Int)):=by omega
       clear hl hp hcd
       go_enter Tryz.func70,Tryz.ntmps70
       go_wp2_with fail
       refine (Tryz.strings_HasPrefix s _ w).mono ?_
       rintro r w1 ⟨rfl,rfl⟩
       rw [HPB.out]
       rcases hvs with h1 | ⟨h1,h2⟩
       · go_wp2_with (go_at_call 78;refine (within_low _ _ _ _ h1).mono ?_;rintro r w2 ⟨rfl,rfl⟩)
         go_ret2
         exact ⟨rfl,Below.refl _ _⟩
       · go_wp2_with (go_at_call 78;refine (within_high _ _ _ _ h1 h2).mono ?_;rintro r w2 ⟨rfl,rfl⟩)
         go_ret2
         exact ⟨rfl,Below.refl _ _⟩
     · have hv1:1≤(c.toNat:Int):=by omega
       have hv2:(c.toNat:Int)≤3:=by omega
       obtain ⟨o,x,hop⟩:∃ o x,openL s.data.toList=(o,x):=⟨_,_,rfl⟩
       have HO:Hid (openR (openL s.data.toList)=.tuple #[.string ⟨o.toArray⟩,.int .i64 (x:Int)]):=Lib.hid (by show openR _=_;rw [hop];rfl)
       by_cases hx:x=0
       · subst hx
         rw [opn_ok h8l hp (by rw [hcd];exact hv) (by rw [hop]),hcd] at h
         injection h with h1 h
         injection h with hI h2
         clear hI
         subst h1 h2
         clear hl hp hcd hop
         go_enter Tryz.func70,Tryz.ntmps70
         go_wp2_with fail
         refine (Tryz.strings_HasPrefix s _ w).mono ?_
         rintro r w1 ⟨rfl,rfl⟩
         rw [HPB.out]
         go_wp2_with (go_at_call 78;refine (within_yes _ _ _ _ hv1 hv2).mono ?_;rintro r w2 ⟨rfl,rfl⟩)
         refine (refopen_any s _ hs).mono ?_
         rintro r w2 ⟨rfl,hb2⟩
         rw [HO.out]
         have HB2:=Lib.hid hb2
         clear hb2
         go_wp2
         go_ret2
         exact ⟨rfl,HB2.out⟩
       · rw [opn_spoilt h8l hp (by rw [hcd];exact hv) (by rw [hop]) hx] at h
         injection h with h1 h
         injection h with hI h2
         clear hI
         subst h1 h2
         have hxi:((x:Int) == 0)=false:=by simp;omega
         clear hl hp hcd hop
         go_enter Tryz.func70,Tryz.ntmps70
         go_wp2_with fail
         refine (Tryz.strings_HasPrefix s _ w).mono ?_
         rintro r w1 ⟨rfl,rfl⟩
         rw [HPB.out]
         go_wp2_with (go_at_call 78;refine (within_yes _ _ _ _ hv1 hv2).mono ?_;rintro r w2 ⟨rfl,rfl⟩)
         refine (refopen_any s _ hs).mono ?_
         rintro r w2 ⟨rfl,hb2⟩
         rw [HO.out]
         have HB2:=Lib.hid hb2
         clear hb2
         go_wp2
         go_ret2
         exact ⟨rfl,HB2.out⟩
   · have HPB:Hid (Lib.hasPrefix s.data.toList [80,84]=false):=Lib.hid (pre_not hp)
     rw [opn_name h8l hp] at h
     injection h with h1 h
     injection h with hI h2
     clear hI
     subst h1 h2
     clear hl hp
     go_enter Tryz.func70,Tryz.ntmps70
     go_wp2_with fail
     refine (Tryz.strings_HasPrefix s _ w).mono ?_
     rintro r w1 ⟨rfl,rfl⟩
     rw [HPB.out]
     go_wp2
     go_ret2
     exact ⟨rfl,Below.refl _ _⟩
end Go.Proofs.YtjkbmfpomgcblaaGreatDoor
namespace Go.Proofs.YtjkbmfpomgcblaaGreatDoor
open Go.RowKit
theorem atIs.place {w:World} {v:Value} {e:Nat} {pl:Int} (h:atIs w v (e,pl)):placeIs w v e pl:=by
 rcases h with ⟨h1,h2⟩ | ⟨_,b,h1,_,h3,h4⟩
 · simp only [Prod.mk.injEq] at h1
   exact .inl ⟨h2,by omega,h1.2⟩
 · exact .inr (.inr ⟨b,0,h1,h3,h4⟩)
theorem atIs.isErr {w:World} {v:Value} {r:Nat×Int} (h:atIs w v r) (h0:r.1≠0):isErr w v (r.1:Nat):=by
 rcases h with ⟨h1,h2⟩ | ⟨_,b,h1,_,h3,h4⟩
 · exact absurd (by rw [h1]) h0
 · exact .inr ⟨b,0,_,h1,h3,h4⟩
def anyErr (w:World) (v:Value) (r:Nat×Int):Prop:=atIs w v r∨(r.1≠0∧r.2=-1∧v=.iface 44 (.int .i64 (r.1:Nat)))
theorem anyErr.below {w w':World} {v:Value} {r:Nat×Int} (h:anyErr w v r) (hb:Below w.heap.size w w'):anyErr w' v r:=by
 rcases h with h | h
 · exact .inl (h.below hb)
 · exact .inr h
theorem anyErr.nil {w:World} {v:Value} {r:Nat×Int} (h:anyErr w v r) (h0:r.1=0):v=.nilIface:=by
 rcases h with (⟨_,h⟩ | ⟨h,_⟩) | ⟨h,_⟩
 · exact h
 · exact absurd h0 h
 · exact absurd h0 h
theorem anyErr.iface {w:World} {v:Value} {r:Nat×Int} (h:anyErr w v r) (h0:r.1≠0):∃ t u,v=.iface t u:=by
 rcases h with (⟨h,_⟩ | ⟨_,b,h,_⟩) | ⟨_,_,h⟩
 · exact absurd (by rw [h]) h0
 · exact ⟨_,_,h⟩
 · exact ⟨_,_,h⟩
theorem anyErr.place {w:World} {v:Value} {e:Nat} {pl:Int} (h:anyErr w v (e,pl)):placeIs w v e pl:=by
 rcases h with h | ⟨_,h1,h2⟩
 · exact h.place
 · exact .inr (.inl ⟨h2,h1⟩)
theorem anyErr.isErr {w:World} {v:Value} {r:Nat×Int} (h:anyErr w v r) (h0:r.1≠0):isErr w v (r.1:Nat):=by
 rcases h with h | ⟨_,h1,h2⟩
 · exact h.isErr h0
 · exact .inl h2
def VRightIs (w:World) (r:Nat×Int) (e:Ending) (w':World):Prop :=
 ∃ v,e=.returned v∧anyErr w' v r∧Below w.heap.size w w'
theorem undrew3 {w w':World} (h:Below w.drew.heap.size w.drew w'):Below w.heap.size w w':=((Below.refl _ _).drew).trans h
end Go.Proofs.YtjkbmfpomgcblaaGreatDoor
namespace Go.Proofs.YtjkbmfpomgcblaaGreatDoor
open Go.RowKit
def NonB (b:Nat) (w w':World):Prop:=∀ k,k < w.heap.size→k≠b→(∀ cs fz,w.heap[k]? ≠ some (.cells cs 5 fz))→w'.heap[k]? = w.heap[k]?
theorem NonB.trans {b:Nat} {w w1 w2:World} (h:NonB b w w1) (k:NonB b w1 w2) (hs:w.heap.size≤w1.heap.size):NonB b w w2:=fun i hi hb hu=>by
 have e:=h i hi hb hu
 exact (k i (by omega) hb (fun cs fz=>by rw [e];exact hu cs fz)).trans e
theorem NonB.row {b:Nat} {w w':World} {base size n:Nat} {e:TypeId} {v:Value} {xs:List Value} (h:NonB b w w') (ho:w.ownsRow base e size v n xs) (he:e≠5) (hb:v.ownBlock≠some b):w'.ownsRow base e size v n xs:=by
 have hlt:=World.ownsRow.lt ho
 refine ⟨ho.1,?_⟩
 rcases ho.2 with h1 | ⟨g,cap,cur,hv,hbg,hh,r⟩
 · exact .inl h1
 · subst hv
   refine .inr ⟨g,cap,cur,rfl,hbg,?_,r⟩
   rw [h g (hlt g rfl).2 (fun hc=>hb (by rw [hc];rfl)) (fun cs fz hc=>by rw [hh] at hc;injection hc with hc;injection hc with _ ht;exact he ht)]
   exact hh
end Go.Proofs.YtjkbmfpomgcblaaGreatDoor
namespace Go.Proofs.YtjkbmfpomgcblaaGreatDoor
open Go.RowKit
set_option maxRecDepth 100000 in
set_option maxHeartbeats 2000000 in
theorem vwrong_any (v:Value) (l:List Ent) (k:Nat) (e:Ent) (last:Int) (w:World) (hv:IsEnts w v l) (hl:l.length≤1000000) (he:l[k]? = some e) (h0:(k=0∧last=-1)∨∃ j d,k=j + 1∧l[j]? = some d∧last=d.rep) :
   Calls Tryz.prog 195 #[v,.int .i64 (k:Int)] w fun r w'=>r=.returned (.int .i64 (wrE e last:Nat))∧Below w.heap.size w w':=by
 obtain ⟨a1,c1,rfl,f1⟩:=hv.form
 obtain ⟨n,hn⟩:∃ n,n=l.length:=⟨_,rfl⟩
 have hkl:k < n:=by rw [hn];exact (List.getElem?_eq_some_iff.1 he).1
 rw [←hn] at hl ⊢
 obtain ⟨b1,o1,rfl,hb1,p0,p1⟩:=f1 k e he
 obtain ⟨rep,time⟩:=e
 simp only at p0 p1
 by_cases hr:rep < 0∨200 < rep∨time < 1∨1099511627776 < time
 · have HW:Hid (wrE ⟨rep,time⟩ last=2):=Lib.hid (wrE_range hr)
   have HR:=Lib.hid hr
   clear hv f1 hn he h0 hr
   rw [HW.out]
   by_cases h1:rep < 0
   · go_enter Tryz.func195,Tryz.ntmps195
     go_wp2
     go_ret
     exact ⟨rfl,(Below.refl _ _).alloc (Nat.le_refl _) _⟩
   · by_cases h2:200 < rep
     · go_enter Tryz.func195,Tryz.ntmps195
       go_wp2
       go_ret
       exact ⟨rfl,(Below.refl _ _).alloc (Nat.le_refl _) _⟩
     · by_cases h3:time < 1
       · go_enter Tryz.func195,Tryz.ntmps195
         go_wp2
         go_ret
         exact ⟨rfl,(Below.refl _ _).alloc (Nat.le_refl _) _⟩
       · have h4:1099511627776 < time:=by have:=HR.out;omega
         go_enter Tryz.func195,Tryz.ntmps195
         go_wp2
         go_ret
         exact ⟨rfl,(Below.refl _ _).alloc (Nat.le_refl _) _⟩
 · have g1:0≤rep:=by omega
   have g2:rep≤200:=by omega
   have g3:1≤time:=by omega
   have g4:time≤1099511627776:=by omega
   rcases h0 with ⟨hk0,rfl⟩ | ⟨j,d,rfl,hd,rfl⟩
   · have HW:Hid (wrE ⟨rep,time⟩ (-1)=0):=Lib.hid (wrE_fine hr (by simp only;omega))
     have z1:¬ 0 < k:=by omega
     have z2:decide (0 < k)=false:=by simp;omega
     have z3:decide ((0:Int) < (k:Int))=false:=by simp;omega
     clear hv f1 hn he hr hk0
     rw [HW.out]
     go_enter Tryz.func195,Tryz.ntmps195
     go_wp2
     go_quiet (fail)
     go_wp2
     go_ret
     exact ⟨rfl,below_drewN ((Below.refl _ _).alloc (Nat.le_refl _) _) _⟩
   · obtain ⟨b2,o2,hbo,_,q0,_⟩:=f1 j d hd
     simp only [Option.some.injEq,Addr.mk.injEq,and_true] at hbo
     obtain ⟨rfl,rfl⟩:=hbo
     obtain ⟨last,dt⟩:=d
     simp only at q0
     obtain ⟨k,hk⟩:∃ k,k=j + 1:=⟨_,rfl⟩
     rw [←hk] at he hkl p0 p1 ⊢
     have hj1:(k:Int) - 1=(j:Int):=by omega
     have hj2:IntKind.i64.wrap ((k:Int) - 1)=(j:Int):=by rw [hj1];exact IntWalk.i64_in _ (by omega)
     have hk0:(0:Int) < (k:Int):=by omega
     have z1:0 < k:=by omega
     have z2:decide (0 < k)=true:=by simp;omega
     have z3:decide ((0:Int) < (k:Int))=true:=by simp;omega
     have hjn:(j:Int) < (n:Int):=by omega
     have hjn':j < n:=by omega
     have hj0:(0:Int)≤(j:Int):=by omega
     have q0':=(World.cell?_alloc_lt w (.cells #[.int .i64 rep,.int .i64 time] 74) (⟨b1,o1 + j * 2,none⟩:Addr) hb1).trans q0
     by_cases h5:rep≤last
     · have HW:Hid (wrE ⟨rep,time⟩ (Ent.mk last dt).rep=10):=Lib.hid (wrE_order hr h5)
       clear hv f1 hn he hr hd hk
       rw [HW.out]
       go_enter Tryz.func195,Tryz.ntmps195
       go_wp2
       go_quiet (fail)
       go_wp2
       go_ret
       exact ⟨rfl,below_drewN ((Below.refl _ _).alloc (Nat.le_refl _) _) _⟩
     · have HW:Hid (wrE ⟨rep,time⟩ (Ent.mk last dt).rep=0):=Lib.hid (wrE_fine hr h5)
       clear hv f1 hn he hr hd hk
       rw [HW.out]
       go_enter Tryz.func195,Tryz.ntmps195
       go_wp2
       go_quiet (fail)
       go_wp2
       go_ret
       exact ⟨rfl,below_drewN ((Below.refl _ _).alloc (Nat.le_refl _) _) _⟩
set_option maxRecDepth 100000 in
set_option maxHeartbeats 2000000 in
theorem vright_few (v:Value) (l:List Ent) (w:World) (hv:IsEnts w v l) (hl:l.length≤16) :
   Calls Tryz.prog 143 #[v] w (RightIs w (vr l 0 (-1))):=by
 have HV:=Lib.hid hv
 obtain ⟨a1,c1,rfl,f1⟩:=hv.form
 obtain ⟨n,hn⟩:∃ n,n=l.length:=⟨_,rfl⟩
 rw [←hn] at hl HV ⊢
 have HN:=Lib.hid hn
 clear hv f1 hn
 go_enter Tryz.func143,Tryz.ntmps143
 go_wp2
 go_loopw [11] (fun i wr=>∃ (k:Nat) (last:Int),k≤n∧i=.int .i64 k∧((k=0∧last=-1)∨∃ j d,k=j + 1∧l[j]? = some d∧last=d.rep)∧vr l 0 (-1)=vr (l.drop k) k last∧Below w.heap.size w wr) (fun i _=>n - (intOf i).toNat)
 case atStart=>exact ⟨0,-1,by omega,rfl,.inl ⟨rfl,rfl⟩,rfl,Below.refl _ _⟩
 case round =>
   obtain ⟨k,last,hk,rfl,hla,heq,hbel⟩:=hrel
   have HEQ:=Lib.hid heq
   have HLA:=Lib.hid hla
   have HB:=Lib.hid hbel
   have hzr:=hbel.size
   clear heq hbel hla
   by_cases hlt:k < n
   · have hkl:k < l.length:=by have:=HN.out;omega
     obtain ⟨t,ht⟩:∃ t,l[k]? = some t:=⟨l[k],List.getElem?_eq_getElem hkl⟩
     have hd:l.drop k=t :: l.drop (k + 1):=by
       rw [List.drop_eq_getElem_cons hkl];congr 1
       rw [List.getElem?_eq_getElem hkl] at ht;exact Option.some.inj ht
     have HD:=Lib.hid hd
     have HT:=Lib.hid ht
     obtain ⟨e,he⟩:∃ e,wrE t last=e:=⟨_,rfl⟩
     have HE:=Lib.hid he
     clear ht hkl hd he
     go_wp2_with fail
     refine (vwrong_any _ l k t last _ (HV.out.below (HB.out.mono (Nat.le_refl _))) (by have:=HN.out;omega) HT.out HLA.out).mono ?_
     rintro r w1 ⟨rfl,hb1⟩
     rw [HE.out]
     have HB1:Hid (Below w.heap.size w w1):=HB.out.trans (hb1.mono hzr)
     have hz1:=HB1.out.size
     clear hb1
     by_cases h0:e=0
     · subst h0
       have HN2:Hid (vr l 0 (-1)=vr (l.drop (k + 1)) (k + 1) t.rep):=Lib.hid (show vr l 0 (-1)=vr (l.drop (k + 1)) (k + 1) t.rep by rw [HEQ.out,HD.out,vr_good HE.out])
       go_wp2
       go_roundw
       case rel=>exact ⟨k + 1,t.rep,by omega,by go_num,.inr ⟨k,t,rfl,HT.out,rfl⟩,HN2.out,HB1.out⟩
       case measure=>simp [intOf];omega
     · have HN2:Hid (vr l 0 (-1)=(e,(k:Int))):=Lib.hid (show vr l 0 (-1)=(e,(k:Int)) by rw [HEQ.out,HD.out,vr_bad (by rw [HE.out];exact h0),HE.out])
       have hne:((e:Int) != 0)=true:=by simp;omega
       have H0:=Lib.hid h0
       clear h0
       go_wp2
       go_ret
       rw [HN2.out]
       exact ⟨_,rfl,atIs.new w1 e k H0.out,HB1.out.alloc hz1 _⟩
   · have HN2:Hid (vr l 0 (-1)=(0,-1)):=Lib.hid (show vr l 0 (-1)=(0,-1) by rw [HEQ.out,List.drop_eq_nil_of_le (by have:=HN.out;omega)];rfl)
     go_wp2
     go_ret
     exact ⟨_,rfl,.inl ⟨HN2.out,rfl⟩,HB.out⟩
theorem vright_any (v:Value) (l:List Ent) (w:World) (hv:IsEnts w v l) (hl:l.length≤9223372036854775807) :
   Calls Tryz.prog 143 #[v] w (VRightIs w (vrightF l)):=by
 by_cases h:16 < l.length
 · have HW:Hid (vrightF l=(4,-1)):=Lib.hid (show vrightF l=(4,-1) by unfold vrightF;rw [if_pos h])
   obtain ⟨a1,c1,rfl,_⟩:=hv.form
   obtain ⟨n,hn⟩:∃ n,n=l.length:=⟨_,rfl⟩
   rw [←hn] at h hl ⊢
   clear hv hn
   rw [HW.out]
   have h2:16 < (n:Int):=by omega
   go_enter Tryz.func143,Tryz.ntmps143
   go_wp2
   go_ret
   exact ⟨_,rfl,.inr ⟨by decide,rfl,rfl⟩,Below.refl _ _⟩
 · refine (vright_few v l w hv (by omega)).mono ?_
   rintro e w' ⟨x,h1,h2,h3⟩
   refine ⟨x,h1,.inl ?_,h3⟩
   unfold vrightF;rw [if_neg h];exact h2
end Go.Proofs.YtjkbmfpomgcblaaGreatDoor
