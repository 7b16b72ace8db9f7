import Derived.Test.YtgfinhehgfbdgaaGreatDoorKa02
import Derived.WalkKit
import Derived.Handy
import Derived.Lib.Hide
import Derived.Laws.BitsAllLaws
import Derived.Test.YtgfinhehgfbdgaaGreatDoorKa03
import Derived.BigQuiet
import Derived.Deep.QuietTactic
import Derived.WalkSmall
import Derived.Outline
import Derived.Test.YtgfinhehgfbdgaaGreatDoorKa00
import Derived.Lib.AppendStr
namespace Go.Proofs.YtgfinhehgfbdgaaGreatDoor
def opnF (s:List UInt8):Nat×List UInt8×Nat :=
  if s.length < 8 then (0,[],7) else if s.take 2≠[80,84] then (0,[],5)
  else if (s.getD 2 0).toNat < 1∨3 < (s.getD 2 0).toNat then (0,[],8)
  else if (openL s).2≠0 then (0,[],(openL s).2)
  else ((s.getD 2 0).toNat,(openL s).1.drop 3,0)
theorem opn_few {s:List UInt8} (h:s.length < 8):opnF s=(0,[],7):=by unfold opnF;rw [if_pos h]
theorem opn_name {s:List UInt8} (h:¬ s.length < 8) (h1:s.take 2≠[80,84]):opnF s=(0,[],5):=by unfold opnF;rw [if_neg h,if_pos h1]
theorem opn_none {s:List UInt8} (h:¬ s.length < 8) (h1:s.take 2=[80,84]) (h2:(s.getD 2 0).toNat < 1∨3 < (s.getD 2 0).toNat):opnF s=(0,[],8):=by
  unfold opnF;rw [if_neg h,if_neg (by simpa using h1),if_pos h2]
theorem opn_spoilt {s:List UInt8} {e:Nat} (h:¬ s.length < 8) (h1:s.take 2=[80,84]) (h2:¬ ((s.getD 2 0).toNat < 1∨3 < (s.getD 2 0).toNat)) (h3:(openL s).2=e) (he:e≠0):opnF s=(0,[],e):=by
  unfold opnF;rw [if_neg h,if_neg (by simpa using h1),if_neg h2,if_pos (by rw [h3];exact he),h3]
theorem opn_ok {s:List UInt8} (h:¬ s.length < 8) (h1:s.take 2=[80,84]) (h2:¬ ((s.getD 2 0).toNat < 1∨3 < (s.getD 2 0).toNat)) (h3:(openL s).2=0):opnF s=((s.getD 2 0).toNat,(openL s).1.drop 3,0):=by
  unfold opnF;rw [if_neg h,if_neg (by simpa using h1),if_neg h2,if_neg (by rw [h3];simp)]
theorem sealL_len (l:List UInt8):(sealL l).length=l.length + 4:=by unfold sealL;rw [List.length_append,tail4_len]
theorem opn_seal (v:UInt8) (i:List UInt8) (hi:1≤i.length):opnF (sealL (80 :: 84 :: v :: i))=if v.toNat < 1∨3 < v.toNat then (0,[],8) else (v.toNat,i,0):=by
  have h0:¬ (sealL (80 :: 84 :: v :: i)).length < 8:=by rw [sealL_len];simp;omega
  have h1:(sealL (80 :: 84 :: v :: i)).take 2=[80,84]:=rfl
  have h2:(sealL (80 :: 84 :: v :: i)).getD 2 0=v:=rfl
  by_cases hv:v.toNat < 1∨3 < v.toNat
  · rw [if_pos hv,opn_none h0 h1 (by rw [h2];exact hv)]
  · rw [if_neg hv,opn_ok h0 h1 (by rw [h2];exact hv) (by rw [openL_seal]),h2,openL_seal];rfl
theorem openL_few {l o:List UInt8} (h:openL l=(o,0)):o.length=l.length - 4:=by
  unfold openL at h
  split at h
  · injection h with _ h;cases h
  · split at h
    · injection h with h _;rw [←h,List.length_take];omega
    · injection h with _ h;cases h
theorem opn_pos {s i:List UInt8} {v:Nat} (h:opnF s=(v,i,0)):1≤i.length∧i.length≤s.length:=by
  by_cases h0:s.length < 8
  · rw [opn_few h0] at h;injection h with _ h;injection h with _ h;cases h
  · by_cases h1:s.take 2=[80,84]
    · by_cases h2:(s.getD 2 0).toNat < 1∨3 < (s.getD 2 0).toNat
      · rw [opn_none h0 h1 h2] at h;injection h with _ h;injection h with _ h;cases h
      · by_cases h3:(openL s).2=0
        · rw [opn_ok h0 h1 h2 h3] at h
          injection h with _ h
          injection h with h _
          have h4:=openL_few (l:=s) (o:=(openL s).1) (by rw [←h3])
          rw [←h,List.length_drop,h4]
          omega
        · rw [opn_spoilt h0 h1 h2 rfl h3] at h;injection h with _ h;injection h with _ h;exact absurd h h3
    · rw [opn_name h0 h1] at h;injection h with _ h;injection h with _ h;cases h
end Go.Proofs.YtgfinhehgfbdgaaGreatDoor
namespace Go.Proofs.YtgfinhehgfbdgaaGreatDoor
open Go.RowKit
theorem ret_u32 {a b:Int} (h:a=b):Ending.returned (.int .u32 a)=.returned (.int .u32 b):=by rw [h]
theorem and_one (n:Nat) (h:n < 4294967296):bits .and .u32 (n:Int) 1=((n % 2:Nat):Int):=by
 rw [show (1:Int)=((1:Nat):Int) from rfl,u32_and_nat n 1 h (by decide),Nat.and_one_is_mod]
theorem and_one_yes {n:Nat} (h:n < 4294967296) (ht:(bits .and .u32 (n:Int) 1 == 1)=true):n % 2=1:=by
 rw [and_one n h] at ht;have:=eq_of_beq ht;omega
theorem and_one_no {n:Nat} (h:n < 4294967296) (ht:(bits .and .u32 (n:Int) 1 == 1)=false):n % 2≠1:=by
 intro e;rw [and_one n h,e] at ht;exact absurd ht (by decide)
theorem half_cast (n:Nat):(n:Int) / 2=((n / 2:Nat):Int):=by omega
theorem st_yes {n:Nat} (h:n < 4294967296) (ht:n % 2=1):bits .xor .u32 ((n:Int) / 2) 2197175160=(st n:Nat):=by
 rw [st_odd ht,half_cast,show (2197175160:Int)=((2197175160:Nat):Int) from rfl,u32_xor_nat _ _ (by omega) (by omega)]
theorem st_no {n:Nat} (ht:n % 2≠1):(n:Int) / 2=(st n:Nat):=by
 rw [st_even ht,half_cast]
end Go.Proofs.YtgfinhehgfbdgaaGreatDoor
namespace Go.Proofs.YtgfinhehgfbdgaaGreatDoor
open Go.RowKit
theorem ofF_dropI {l:List Ent} {k:Nat} {t:Ent} (h:l[k]? = some t) (x:Int):ofF (l.drop k) x=if t.rep=x then t.time else ofF (l.drop (k + 1)) x:=by
 obtain ⟨hk,ht⟩:=List.getElem?_eq_some_iff.1 h
 rw [List.drop_eq_getElem_cons hk,ht];rfl
set_option maxRecDepth 100000 in
set_option maxHeartbeats 2000000 in
theorem vofI_any (v:Value) (l:List Ent) (x:Int) (w:World) (hv:IsEnts w v l) (hl:l.length≤9223372036854775807) :
   Calls Tryz.prog 156 #[v,.int .i64 x] w fun r w'=>r=.returned (.int .i64 (ofF l x))∧Below w.heap.size w w':=by
 obtain ⟨a1,c1,rfl,f1⟩:=hv.form
 have F1:=Lib.hid f1
 obtain ⟨n,hn⟩:∃ n,n=l.length:=⟨_,rfl⟩
 rw [←hn] at hl ⊢
 have HN:=Lib.hid hn
 clear hv f1 hn
 go_enter Tryz.func156,Tryz.ntmps156
 go_wp2
 go_loopw [9] (fun i wr=>∃ k:Nat,k≤n∧i=.int .i64 k∧ofF l x=ofF (l.drop k) x∧Below w.heap.size w wr) (fun i _=>n - (intOf i).toNat)
 case atStart=>exact ⟨0,by omega,rfl,rfl,Below.refl _ _⟩
 case round =>
   obtain ⟨k,hk,rfl,heq,hbel⟩:=hrel
   have HEQ:=Lib.hid heq
   have HB:=Lib.hid hbel
   have hzr:=hbel.size
   clear heq hbel
   by_cases hlt:k < n
   · obtain ⟨t, ht⟩ : ∃ t, l[k]? = some t := ⟨l[k]'(by have := HN.out; omega), List.getElem?_eq_getElem _⟩
     obtain ⟨b1,o1,rfl,hb1,p0,p1⟩:=F1.out k t ht
     have hd:=ofF_dropI ht x
     obtain ⟨rep,time⟩:=t
     simp only at p0 p1 hd
     have q0:=(HB.out.cell (p:=⟨b1,o1 + k * 2,none⟩) hb1).trans p0
     have q1:=(HB.out.cell (p:=⟨b1,o1 + k * 2 + 1,none⟩) hb1).trans p1
     by_cases hx:rep=x
     · have HW:Hid (ofF l x=time):=Lib.hid (show ofF l x=time by rw [HEQ.out,hd,if_pos hx])
       clear p0 p1 ht hd
       subst hx
       go_wp2
       go_ret
       exact ⟨by rw [HW.out];rfl,HB.out.alloc hzr _⟩
     · have HW:Hid (ofF l x=ofF (l.drop (k + 1)) x):=Lib.hid (show ofF l x=ofF (l.drop (k + 1)) x by rw [HEQ.out,hd,if_neg hx])
       have bx:(rep == x)=false:=by simpa using hx
       clear p0 p1 ht hd
       go_wp2
       go_roundw
       case rel=>exact ⟨k + 1,by omega,by go_num,HW.out,HB.out.alloc hzr _⟩
       case measure=>simp [intOf];omega
   · have HW:Hid (ofF l x=0):=Lib.hid (show ofF l x=0 by rw [HEQ.out,List.drop_eq_nil_of_le (by have:=HN.out;omega)];rfl)
     go_wp2
     go_ret
     exact ⟨by rw [HW.out];rfl,HB.out⟩
theorem vofI_as (v:Value) (l:List Ent) (x y:Int) (w:World) (hv:IsEnts w v l) (hl:l.length≤9223372036854775807) (h:ofF l x=y) :
   Calls Tryz.prog 156 #[v,.int .i64 x] w fun r w'=>r=.returned (.int .i64 y)∧Below w.heap.size w w':=by
 subst h;exact vofI_any v l x w hv hl
end Go.Proofs.YtgfinhehgfbdgaaGreatDoor
namespace Go.Proofs.YtgfinhehgfbdgaaGreatDoor
open Go.RowKit
theorem toLs (s:ByteArray):s.toList=s.data.toList:=ByteArray.toList_eq s
theorem empty_b {s:ByteArray} (h:s.size=0):s.toList.isEmpty=true:=by
 rw [toLs]
 have hl:=size_data s
 cases hd:s.data.toList with
 | nil=>rfl
 | cons a r=>rw [hd,h] at hl;simp at hl
theorem full_b {s:ByteArray} (h:s.size≠0):s.toList.isEmpty=false:=by
 rw [toLs]
 have hl:=size_data s
 cases hd:s.data.toList with
 | nil=>rw [hd] at hl;exact absurd hl h
 | cons a r=>rfl
def tokV (t:Tok):Value:=.agg #[.string t.own,.int .i64 t.back,.int .i64 t.size]
set_option maxRecDepth 100000 in
theorem beyond_no (s:ByteArray) (b n:Int) (w:World) (h1:4≤n) (h2:n≤67) (h3:1≤b) (h4:b≤1024) :
   Calls Tryz.prog 200 #[.agg #[.string s,.int .i64 b,.int .i64 n]] w fun e w'=>e=.returned (.bool false)∧Below w.heap.size w w':=by
 have d1:decide (n < 4)=false:=by simp;omega
 have d2:decide (67 < n)=false:=by simp;omega
 have d3:decide (b < 1)=false:=by simp;omega
 have d4:decide (1024 < b)=false:=by simp;omega
 go_enter Tryz.func200,Tryz.ntmps200
 go_wp2
 go_ret
 exact ⟨rfl,(Below.refl _ _).alloc (Nat.le_refl _) _⟩
set_option maxRecDepth 100000 in
theorem beyond_yes (s:ByteArray) (b n:Int) (w:World) (h:n < 4∨67 < n∨b < 1∨1024 < b) :
   Calls Tryz.prog 200 #[.agg #[.string s,.int .i64 b,.int .i64 n]] w fun e w'=>e=.returned (.bool true)∧Below w.heap.size w w':=by
 by_cases c1:n < 4
 · have d1:decide (n < 4)=true:=by simpa using c1
   clear h
   go_enter Tryz.func200,Tryz.ntmps200
   go_wp2
   go_ret
   exact ⟨rfl,(Below.refl _ _).alloc (Nat.le_refl _) _⟩
 · have d1:decide (n < 4)=false:=by simpa using c1
   by_cases c2:67 < n
   · have d2:decide (67 < n)=true:=by simpa using c2
     clear h
     go_enter Tryz.func200,Tryz.ntmps200
     go_wp2
     go_ret
     exact ⟨rfl,(Below.refl _ _).alloc (Nat.le_refl _) _⟩
   · have d2:decide (67 < n)=false:=by simpa using c2
     by_cases c3:b < 1
     · have d3:decide (b < 1)=true:=by simpa using c3
       clear h
       go_enter Tryz.func200,Tryz.ntmps200
       go_wp2
       go_ret
       exact ⟨rfl,(Below.refl _ _).alloc (Nat.le_refl _) _⟩
     · have d3:decide (b < 1)=false:=by simpa using c3
       have c4:1024 < b:=by omega
       have d4:decide (1024 < b)=true:=by simpa using c4
       clear h
       go_enter Tryz.func200,Tryz.ntmps200
       go_wp2
       go_ret
       exact ⟨rfl,(Below.refl _ _).alloc (Nat.le_refl _) _⟩
set_option maxRecDepth 100000 in
theorem length_any (s:ByteArray) (b n:Int) (w:World) (hs:s.size≤140737488351232) (h0:0≤n) (h1:n≤1000) :
   Calls Tryz.prog 173 #[.agg #[.string s,.int .i64 b,.int .i64 n]] w fun e w'=>e=.returned (.int .i64 (lenT ⟨s,b,n⟩:Nat))∧Below w.heap.size w w':=by
 have HE:Hid (((s.size:Int) + n)=(lenT ⟨s,b,n⟩:Nat)):=by
   have h:((s.size:Int) + n)=(lenT ⟨s,b,n⟩:Nat):=by show _=(((s.size + n.toNat:Nat)):Int);omega
   exact h
 go_enter Tryz.func173,Tryz.ntmps173
 go_wp2
 go_ret
 exact ⟨by rw [←HE.out];rfl,(Below.refl _ _).alloc (Nat.le_refl _) _⟩
set_option maxRecDepth 100000 in
set_option maxHeartbeats 1000000 in
theorem wrong_any (s:ByteArray) (b n:Int) (a:Nat) (w:World) (hs:s.size≤140737488351232) (ha:a≤20000) :
   Calls Tryz.prog 172 #[.agg #[.string s,.int .i64 b,.int .i64 n],.int .i64 a] w fun e w'=>e=.returned (.int .i64 (wrongN ⟨s,b,n⟩ a:Nat))∧Below w.heap.size w w':=by
 by_cases h0:s.size=0
 · have e1:=empty_b h0
   by_cases hz:n=0∧b=0
   · have HW : Hid (wrongN ⟨s, b, n⟩ a = 1) := by
       have h:wrongN ⟨s,b,n⟩ a=1:=by unfold wrongN;rw [if_pos h0,if_pos hz]
       exact h
     obtain ⟨rfl,rfl⟩:=hz
     clear h0 hs
     go_enter Tryz.func172,Tryz.ntmps172
     go_wp2
     go_ret
     exact ⟨by rw [HW.out];rfl,(Below.refl _ _).alloc (Nat.le_refl _) _⟩
   · by_cases hy:n < 4∨67 < n∨b < 1∨1024 < b
     · have HW : Hid (wrongN ⟨s, b, n⟩ a = 2) := by
         have h:wrongN ⟨s,b,n⟩ a=2:=by unfold wrongN;rw [if_pos h0,if_neg hz,if_pos hy]
         exact h
       have HY:=Lib.hid hy
       clear hy
       by_cases h1:n=0
       · subst h1
         have d1:(b != 0)=true:=by simp;omega
         clear h0 hs hz
         go_enter Tryz.func172,Tryz.ntmps172
         go_wp2_with fail
         refine (beyond_yes s b 0 _ HY.out).mono ?_
         rintro r w1 ⟨rfl,hb1⟩
         have HB:Hid (Below w.heap.size w w1):=((Below.refl _ _).alloc (Nat.le_refl _) _).trans (hb1.mono (by simp))
         clear hb1
         go_wp2
         go_ret
         exact ⟨by rw [HW.out];rfl,HB.out⟩
       · have d1:(n != 0)=true:=by simp;omega
         clear h0 hs hz h1
         go_enter Tryz.func172,Tryz.ntmps172
         go_wp2_with fail
         refine (beyond_yes s b n _ HY.out).mono ?_
         rintro r w1 ⟨rfl,hb1⟩
         have HB:Hid (Below w.heap.size w w1):=((Below.refl _ _).alloc (Nat.le_refl _) _).trans (hb1.mono (by simp))
         clear hb1
         go_wp2
         go_ret
         exact ⟨by rw [HW.out];rfl,HB.out⟩
     · have h4:4≤n:=by omega
       have h5:n≤67:=by omega
       have h6:1≤b:=by omega
       have h7:b≤1024:=by omega
       have d1:(n != 0)=true:=by simp;omega
       have HL:Hid ((lenT ⟨s,b,n⟩:Nat)=n.toNat):=by
         have h:lenT ⟨s,b,n⟩=n.toNat:=by show s.size + n.toNat=_;omega
         exact h
       obtain ⟨n,rfl⟩:=Int.eq_ofNat_of_zero_le (show 0≤n by omega)
       rw [Int.toNat_natCast] at HL
       by_cases h8:(a:Int) < b
       · have HW : Hid (wrongN ⟨s, b, n⟩ a = 7) := by
           have h:wrongN ⟨s,b,n⟩ a=7:=by unfold wrongN;rw [if_pos h0,if_neg hz,if_neg hy,if_pos h8]
           exact h
         clear h0 hz hy HL
         go_enter Tryz.func172,Tryz.ntmps172
         go_wp2_with fail
         refine (beyond_no s b _ _ h4 h5 h6 h7).mono ?_
         rintro r w1 ⟨rfl,hb1⟩
         have HB:Hid (Below w.heap.size w w1):=((Below.refl _ _).alloc (Nat.le_refl _) _).trans (hb1.mono (by simp))
         have c0:w1.cell? ⟨w.heap.size,0,none⟩=some (.string s):=(hb1.cell (by simp)).trans (by simp)
         have c1:w1.cell? ⟨w.heap.size,1,none⟩=some (.int .i64 b):=(hb1.cell (by simp)).trans (by simp)
         have c2:w1.cell? ⟨w.heap.size,2,none⟩=some (.int .i64 n):=(hb1.cell (by simp)).trans (by simp)
         clear hb1
         go_wp2
         go_ret
         exact ⟨by rw [HW.out];rfl,HB.out⟩
       · by_cases h9:20000 < (a:Int) + n
         · have HW : Hid (wrongN ⟨s, b, n⟩ a = 4) := by
             have h:wrongN ⟨s,b,n⟩ a=4:=by unfold wrongN;rw [if_pos h0,if_neg hz,if_neg hy,if_neg h8,if_pos h9]
             exact h
           clear h0 hz hy
           go_enter Tryz.func172,Tryz.ntmps172
           go_wp2_with fail
           refine (beyond_no s b _ _ h4 h5 h6 h7).mono ?_
           rintro r w1 ⟨rfl,hb1⟩
           have HB:Hid (Below w.heap.size w w1):=((Below.refl _ _).alloc (Nat.le_refl _) _).trans (hb1.mono (by simp))
           have c0:w1.cell? ⟨w.heap.size,0,none⟩=some (.string s):=(hb1.cell (by simp)).trans (by simp)
           have c1:w1.cell? ⟨w.heap.size,1,none⟩=some (.int .i64 b):=(hb1.cell (by simp)).trans (by simp)
           have c2:w1.cell? ⟨w.heap.size,2,none⟩=some (.int .i64 n):=(hb1.cell (by simp)).trans (by simp)
           clear hb1
           go_wp2_with fail
           refine (length_any s b _ _ hs (by omega) (by omega)).mono ?_
           rintro r w2 ⟨rfl,hb2⟩
           rw [HL.out]
           have HB2:Hid (Below w.heap.size w w2):=HB.out.trans (hb2.mono HB.out.size)
           clear hb2
           go_wp2
           go_ret
           exact ⟨by rw [HW.out];rfl,HB2.out⟩
         · have HW : Hid (wrongN ⟨s, b, n⟩ a = 0) := by
             have h:wrongN ⟨s,b,n⟩ a=0:=by unfold wrongN;rw [if_pos h0,if_neg hz,if_neg hy,if_neg h8,if_neg h9]
             exact h
           clear h0 hz hy
           go_enter Tryz.func172,Tryz.ntmps172
           go_wp2_with fail
           refine (beyond_no s b _ _ h4 h5 h6 h7).mono ?_
           rintro r w1 ⟨rfl,hb1⟩
           have HB:Hid (Below w.heap.size w w1):=((Below.refl _ _).alloc (Nat.le_refl _) _).trans (hb1.mono (by simp))
           have c0:w1.cell? ⟨w.heap.size,0,none⟩=some (.string s):=(hb1.cell (by simp)).trans (by simp)
           have c1:w1.cell? ⟨w.heap.size,1,none⟩=some (.int .i64 b):=(hb1.cell (by simp)).trans (by simp)
           have c2:w1.cell? ⟨w.heap.size,2,none⟩=some (.int .i64 n):=(hb1.cell (by simp)).trans (by simp)
           clear hb1
           go_wp2_with fail
           refine (length_any s b _ _ hs (by omega) (by omega)).mono ?_
           rintro r w2 ⟨rfl,hb2⟩
           rw [HL.out]
           have HB2:Hid (Below w.heap.size w w2):=HB.out.trans (hb2.mono HB.out.size)
           clear hb2
           go_wp2
           go_ret
           exact ⟨by rw [HW.out];rfl,HB2.out⟩
 · have e1:=full_b h0
   have e2:(!s.toList.isEmpty)=true:=by rw [e1];rfl
   by_cases hy:n≠0∨b≠0
   · have HW : Hid (wrongN ⟨s, b, n⟩ a = 1) := by
       have h:wrongN ⟨s,b,n⟩ a=1:=by unfold wrongN;rw [if_neg h0,if_pos hy]
       exact h
     by_cases h1:n=0
     · have d0:(n != 0)=false:=by simp;omega
       have d1:(b != 0)=true:=by simp;omega
       clear hy h0 hs h1
       go_enter Tryz.func172,Tryz.ntmps172
       go_wp2
       go_ret
       exact ⟨by rw [HW.out];rfl,(Below.refl _ _).alloc (Nat.le_refl _) _⟩
     · have d1:(n != 0)=true:=by simp;omega
       clear hy h0 hs h1
       go_enter Tryz.func172,Tryz.ntmps172
       go_wp2
       go_ret
       exact ⟨by rw [HW.out];rfl,(Below.refl _ _).alloc (Nat.le_refl _) _⟩
   · obtain ⟨rfl,rfl⟩:n=0∧b=0:=by omega
     have HL:Hid ((lenT ⟨s,0,0⟩:Nat)=s.size):=by
       have h:lenT ⟨s,0,0⟩=s.size:=by show s.size + (0:Int).toNat=_;simp
       exact h
     have h8:¬ (a:Int) < 0:=by omega
     by_cases h9:20000 < a + s.size
     · have HW : Hid (wrongN ⟨s, 0, 0⟩ a = 4) := by
         have h:wrongN ⟨s,0,0⟩ a=4:=by unfold wrongN;rw [if_neg h0,if_neg hy,if_pos h9]
         exact h
       have h10:20000 < (a:Int) + (s.size:Int):=by omega
       clear h0 hy h9
       go_enter Tryz.func172,Tryz.ntmps172
       go_wp2_with fail
       refine (length_any s 0 0 _ hs (by omega) (by omega)).mono ?_
       rintro r w2 ⟨rfl,hb2⟩
       rw [HL.out]
       have HB2:Hid (Below w.heap.size w w2):=((Below.refl _ _).alloc (Nat.le_refl _) _).trans (hb2.mono (by simp))
       clear hb2
       go_wp2
       go_ret
       exact ⟨by rw [HW.out];rfl,HB2.out⟩
     · have HW : Hid (wrongN ⟨s, 0, 0⟩ a = 0) := by
         have h:wrongN ⟨s,0,0⟩ a=0:=by unfold wrongN;rw [if_neg h0,if_neg hy,if_neg h9]
         exact h
       have h10:¬ 20000 < (a:Int) + (s.size:Int):=by omega
       clear h0 hy h9
       go_enter Tryz.func172,Tryz.ntmps172
       go_wp2_with fail
       refine (length_any s 0 0 _ hs (by omega) (by omega)).mono ?_
       rintro r w2 ⟨rfl,hb2⟩
       rw [HL.out]
       have HB2:Hid (Below w.heap.size w w2):=((Below.refl _ _).alloc (Nat.le_refl _) _).trans (hb2.mono (by simp))
       clear hb2
       go_wp2
       go_ret
       exact ⟨by rw [HW.out];rfl,HB2.out⟩
end Go.Proofs.YtgfinhehgfbdgaaGreatDoor
namespace Go.Proofs.YtgfinhehgfbdgaaGreatDoor
open Go.RowKit
theorem ownsB.drew {w:World} {base:Nat} {v:Value} {l:List UInt8} (h:ownsB w base v l):ownsB w.drew base v l:=h
theorem ownsB.lt {w:World} {base:Nat} {v:Value} {l:List UInt8} (h:ownsB w base v l):∀ k,v.ownBlock=some k→base≤k∧k < w.heap.size:=World.ownsRow.lt h
theorem ownsB.below {w w':World} {base:Nat} {v:Value} {l:List UInt8} (h:ownsB w base v l) (hb:Below w.heap.size w w'):ownsB w' base v l:=by
 refine World.ownsRow.kept h (row:=none) ⟨hb.os,hb.tape,hb.output,hb.size,fun k hk _=>hb.block k hk⟩ ?_
 cases hv:v.ownBlock with
 | none=>exact .inl rfl
 | some g=>exact .inr (by simp)
theorem ownsB.forms {w:World} {base:Nat} {v:Value} {l:List UInt8} (h:ownsB w base v l) :
   (v=.slice none 0 0∧l=[])∨∃ g cap,v=.slice (some ⟨g,0,none⟩) l.length cap∧base≤g∧g < w.heap.size∧∀ j,j < l.length→w.cell? ⟨g,j,none⟩=some (.int .u8 ((l.getD j 0).toNat:Int)):=by
 have hall:=h
 obtain ⟨h0,h1⟩:=h
 rcases h1 with ⟨rfl,hn⟩ | ⟨g,cap,cur,rfl,hb,hh,hc,hm,hs,ht⟩
 · exact .inl ⟨rfl,List.length_eq_zero_iff.1 hn⟩
 · refine .inr ⟨g,cap,rfl,hb,(World.ownsRow.lt hall g rfl).2,fun j hj=>?_⟩
   rw [World.ownsRow.cellAt hall j (by omega)]
   simp [List.getElem?_eq_getElem hj,byteV]
theorem ownsB.ne_tok {w:World} {base B:Nat} {v:Value} {l:List UInt8} {t:Tok} (h:ownsB w base v l) (hb:tokBlk w B t):v.ownBlock≠some B:=by
 rcases h.2 with ⟨rfl,_⟩ | ⟨g',cap,cur,rfl,_,hh,_⟩
 · simp [Value.ownBlock]
 · intro he
   have:g'=B:=by simpa [Value.ownBlock] using he
   subst this
   unfold tokBlk at hb
   rw [hh] at hb
   injection hb with hb
   injection hb with _ ht
   exact absurd ht (by decide)
theorem tokBlk.lt {w:World} {B:Nat} {t:Tok} (h:tokBlk w B t):B < w.heap.size:=by
 rcases Nat.lt_or_ge B w.heap.size with hlt | hge
 · exact hlt
 · unfold tokBlk at h;rw [Array.getElem?_eq_none hge] at h;cases h
theorem tokBlk.alloc {w:World} {B:Nat} {t:Tok} (h:tokBlk w B t) (o:Obj):tokBlk (w.alloc o) B t:=(Below.heap_alloc w o B h.lt).trans h
theorem tokBlk.grown {w w':World} {B:Nat} {t:Tok} {row:Option Nat} (h:tokBlk w B t) (hg:w.grownBy w' row) (hne:row≠some B):tokBlk w' B t:=(hg.block B h.lt (fun e=>hne e.symm)).trans h
theorem tokBlk.cells {w:World} {B:Nat} {t:Tok} (h:tokBlk w B t):w.cell? ⟨B,0,none⟩=some (.string t.own)∧w.cell? ⟨B,1,none⟩=some (.int .i64 t.back)∧w.cell? ⟨B,2,none⟩=some (.int .i64 t.size) :=
 ⟨cell_of_row w B 0 _ _ (0,0) h,cell_of_row w B 1 _ _ (0,0) h,cell_of_row w B 2 _ _ (0,0) h⟩
theorem wpList_append_text {w:World} {ops:Array Oper} {rest:List Oper} {o:Oper} {a:Act} {Q:Exit→Act→World→Prop} (hgd:o.guard=none) (s x:Operand)
   (ho:o.op=.call { callee:=.builtin .append,args:=#[s,x],argTypes:=#[56,9] })
   (base:Nat) (v:Value) (l:List UInt8) (hs:a.eval s=v) (hown:ownsB w base v l)
   (t:ByteArray) (hx:a.eval x=.string t) (hlen:l.length + t.size≤140737488355328) (hbase:base≤w.heap.size)
   (h:∀ v' w',ownsB w' base v' (l ++ t.data.toList)→w.grownBy w' v.ownBlock→wpList Tryz.prog ops Q rest (a.put o.dst v') w'):wpList Tryz.prog ops Q (o :: rest) a w:=by
 obtain ⟨i0,hi,hz0,hz1,hz2⟩:=info_parts info_u8
 refine Go.Lib.wpList_append_own_string w hgd s x 56 9 ho base 5 i0 Tryz.underlying56 Tryz.underlying9 hi hz0 hz1 hz2 v l.length (l.map byteV) hs hown t hx (by unfold maxLen;omega) hlen hbase ?_
 intro v' w' h1 h2 _
 refine h v' w' ?_ h2
 unfold ownsB
 rw [List.length_append,List.map_append,Array.length_toList]
 exact h1
end Go.Proofs.YtgfinhehgfbdgaaGreatDoor
