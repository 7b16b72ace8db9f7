import Derived.Test.YtgfinhehgfbdgaaGreatDoorKa04
import Derived.Test.YtgfinhehgfbdgaaGreatDoorKa05
import Derived.Test.YtgfinhehgfbdgaaGreatDoorKa02
import Derived.Test.YtgfinhehgfbdgaaGreatDoorKa03
import Derived.Test.YtgfinhehgfbdgaaGreatDoorKa01
import Derived.Lib.Hide
import Derived.Outline
import Derived.Test.YtgfinhehgfbdgaaGreatDoorKa07
import Derived.Test.YtgfinhehgfbdgaaGreatDoorKa08
import Derived.Test.YtgfinhehgfbdgaaGreatDoorKa00
import Derived.Laws.Rows
import Derived.Laws.NewBlocks
import Derived.Below
import Derived.WalkKit
import Derived.Deep.Slices
namespace Go.Proofs.YtgfinhehgfbdgaaGreatDoor
open Go.RowKit
def findV (r:Nat×Nat):Value:=.tuple #[.int .i64 r.1,.int .i64 r.2]
set_option maxRecDepth 100000 in
set_option maxHeartbeats 1000000 in
theorem find_nat (s:ByteArray) (a:Nat) (w:World) (hs:s.size≤maxLen) (ha:a < s.size) :
    Calls Tryz.prog 124 #[.string s,.int .i64 a] w fun e w'=>e=.returned (findV (find s.data.toList a))∧∃ q,w'=w.drewN q:=by
  have HS:=Lib.hid hs
  unfold maxLen at hs
  obtain ⟨m,hm⟩:∃ m,m=min 67 (s.size - a):=⟨_,rfl⟩
  obtain ⟨t,ht⟩:∃ t,t=min 1024 a:=⟨_,rfl⟩
  have m1:(if (s.size:Int) - (a:Int) < 67 then (s.size:Int) - (a:Int) else 67)=(m:Int):=by split <;> omega
  have t1:(if (a:Int) < 1024 then (a:Int) else 1024)=(t:Int):=by split <;> omega
  have m2:min 67 ((s.size:Int) - (a:Int))=(m:Int):=by omega
  have t2:min 1024 (a:Int)=(t:Int):=by omega
  have HF:Hid (find s.data.toList a=best s.data.toList a m t):=by
    have hl:s.data.toList.length=s.size:=by simp
    have h:find s.data.toList a=best s.data.toList a m t:=by rw [find_in (by omega),hl,hm,ht]
    exact h
  have hm0:0 < m:=by omega
  have hma:a + m≤s.size:=by omega
  have hta:t≤a:=by omega
  have c1:decide ((a:Int) < 0)=false:=by simp
  have c2:decide (s.size≤a)=false:=by simp;omega
  clear hm ht
  go_enter Tryz.func124,Tryz.ntmps124
  go_wp2
  clear m1 t1 m2 t2 c1 c2
  go_loopw [4,5,24] (fun b n i wr=>∃ i' b' n' q:Nat,i'≤t∧i=.int .i64 i'∧b=.int .i64 b'∧n=.int .i64 n'∧n' < m∧bestC s.data.toList a m 1 i' b' n'∧wr=w.drewN q) (fun _ _ i _=>t - (intOf i).toNat)
  case atStart=>exact ⟨0,0,0,0,by omega,rfl,rfl,rfl,hm0,.inl ⟨rfl,rfl,fun k h1 h2=>by omega⟩,rfl⟩
  case round =>
    obtain ⟨i,b,n,q,hi,rfl,rfl,rfl,hn,hC,rfl⟩:=hrel
    have HC:=Lib.hid hC
    clear hC
    by_cases hlt:i < t
    · obtain ⟨x,hx⟩:∃ x,sm s.data.toList a (i + 1) m=x:=⟨_,rfl⟩
      have hxm:=sm_le s.data.toList a (i + 1) m
      rw [hx] at hxm
      by_cases hb:4≤x∧n < x
      · have hN:=bestC_far HC.out (by omega) (by omega) (by omega)
        rw [hx] at hN
        have HN:=Lib.hid hN
        have HX:=Lib.hid hx
        obtain ⟨b4,bn⟩:=hb
        clear hN hx
        by_cases hf:x=m
        · have hbe:((x:Int) == (m:Int))=true:=by simp [hf]
          have HE:Hid (find s.data.toList a=(i + 1,x)):=by
            have h:find s.data.toList a=(i + 1,x):=by rw [HF.out];exact best_eq (bestC_full HN.out hf hm0 (by omega))
            exact h
          clear hf
          go_wp2_with fail
          refine (same_at s a (i + 1) m _ _ HS.out (by omega) (by omega) hma).mono ?_
          rintro e w1 ⟨rfl,q1,rfl⟩
          rw [HX.out]
          go_wp2
          go_ret2
          exact ⟨by rw [HE.out];rfl,by first | exact ⟨_,rfl⟩ | exact drewq _ _ _⟩
        · have hbe:((x:Int) == (m:Int))=false:=by simp;omega
          go_wp2_with fail
          refine (same_at s a (i + 1) m _ _ HS.out (by omega) (by omega) hma).mono ?_
          rintro e w1 ⟨rfl,q1,rfl⟩
          rw [HX.out]
          go_wp2
          go_roundw
          case rel=>exact ⟨i + 1,i + 1,x,q + q1,by omega,by go_num,by go_num,rfl,by omega,HN.out,by simp⟩
          case measure=>simp [intOf];omega
      · have hN:=bestC_farnot HC.out (by rw [hx];exact hb)
        have HN:=Lib.hid hN
        have HX:=Lib.hid hx
        have hbe:((n:Int) == (m:Int))=false:=by simp;omega
        clear hN hx
        by_cases h4:4≤x
        · have h5:¬ n < x:=fun h=>hb ⟨h4,h⟩
          clear hb
          go_wp2_with fail
          refine (same_at s a (i + 1) m _ _ HS.out (by omega) (by omega) hma).mono ?_
          rintro e w1 ⟨rfl,q1,rfl⟩
          rw [HX.out]
          go_wp2
          go_roundw
          case rel=>exact ⟨i + 1,b,n,q + q1,by omega,by go_num,rfl,rfl,by omega,HN.out,by simp⟩
          case measure=>simp [intOf];omega
        · clear hb
          go_wp2_with fail
          refine (same_at s a (i + 1) m _ _ HS.out (by omega) (by omega) hma).mono ?_
          rintro e w1 ⟨rfl,q1,rfl⟩
          rw [HX.out]
          go_wp2
          go_roundw
          case rel=>exact ⟨i + 1,b,n,q + q1,by omega,by go_num,rfl,rfl,by omega,HN.out,by simp⟩
          case measure=>simp [intOf];omega
    · have HE : Hid (find s.data.toList a = (b, n)) := by
        have h:find s.data.toList a=(b,n):=by
          rw [HF.out]
          have e:i=t:=by omega
          rw [←e];exact best_eq HC.out
        exact h
      go_wp2
      go_ret2
      exact ⟨by rw [HE.out];rfl,_,rfl⟩
end Go.Proofs.YtgfinhehgfbdgaaGreatDoor
namespace Go.Proofs.YtgfinhehgfbdgaaGreatDoor
open Go.RowKit
def OwnIs (w:World) (base:Nat) (l:List Tok) (e:Ending) (w':World):Prop :=
 ∃ v,e=.returned v∧ownsK w' base v l∧Below base w w'
set_option maxRecDepth 100000 in
set_option maxHeartbeats 1000000 in
theorem own_any (v:Value) (l:List Tok) (s:ByteArray) (base:Nat) (w:World) (hs:s.size≤140737488351232) (hb:base≤w.heap.size) (ho:ownsK w base v l) (hl:l.length≤999999) :
   Calls Tryz.prog 125 #[v,.string s] w (OwnIs w base (l ++ ownT s.data.toList)):=by
 by_cases hz:s.data.toList=[]
 · have h1:s.toList=[]:=by rw [toL];exact hz
   have h2:s.toList.isEmpty=true:=by rw [h1];rfl
   have HO:Hid (ownsK w base v (l ++ ownT s.data.toList)):=by
     have h:ownsK w base v (l ++ ownT s.data.toList):=by rw [hz,ownT_nil,List.append_nil];exact ho
     exact h
   clear ho hz
   go_enter Tryz.func125,Tryz.ntmps125
   go_wp2
   go_ret
   exact ⟨_,rfl,HO.out,Below.refl _ _⟩
 · have h2 : s.toList.isEmpty = false := by rw [toL]; cases h : s.data.toList with
                                                      | nil=>exact absurd h hz
                                                      | cons=>rfl
   have HO:=Lib.hid ho
   have HT:Hid (ownT s.data.toList=[⟨s,0,0⟩]):=by
     have h:ownT s.data.toList=[⟨s,0,0⟩]:=by rw [ownT_cons hz]
     exact h
   clear ho hz
   go_enter Tryz.func125,Tryz.ntmps125
   go_wp2_with fail
   refine (clone_s s _ hs).mono ?_
   rintro r w1 ⟨rfl,hb1⟩
   have HO1:=Lib.hid (HO.out.below hb1)
   have HB1:Hid (Below base w w1):=hb1.mono hb
   have hbs:base≤w1.heap.size:=Nat.le_trans hb hb1.size
   clear hb1
   go_wp2_with (at_builtin;refine wpList_append_tok rfl _ _ rfl base _ l rfl (HO1.out.alloc _) w1.heap.size 1 rfl ⟨s,0,0⟩ ?c1 ?c2 ?c3 ?_)
   case c1=>exact tokBlk_new _ _ _ _
   case c2=>omega
   case c3=>simp;omega
   · intro g cap w2 ho2 hg2
     have HB2:Hid (Below base w w2):=(HB1.out.alloc hbs _).grown hg2 (by simp;omega) (fun g hg=>(HO1.out.lt g hg).1)
     have HO2:=Lib.hid ho2
     clear ho2 hg2
     go_wp2
     go_ret
     exact ⟨_,rfl,by rw [HT.out];exact HO2.out,HB2.out⟩
end Go.Proofs.YtgfinhehgfbdgaaGreatDoor
namespace Go.Proofs.YtgfinhehgfbdgaaGreatDoor
open Go.RowKit
theorem not_u32 {n:Nat} (h:n < 4294967296):bits .xor .u32 IntKind.u32.max (n:Int)=(inv n:Nat):=by
 rw [show IntKind.u32.max=((4294967295:Nat):Int) from by decide,u32_xor_nat _ _ (by decide) h,Nat.xor_comm];rfl
theorem xor_u32 {n:Nat} (h:n < 4294967296) (c:UInt8):bits .xor .u32 (n:Int) ((c.toNat:Int) % 4294967296)=((n ^^^ c.toNat:Nat):Int):=by
 have:=byte_lt c
 rw [Int.emod_eq_of_lt (by omega) (by omega)];exact u32_xor_nat _ _ h (byte_lt c)
theorem take_at (s:ByteArray) (c k:Nat) (h:k < s.size):run c (s.data.toList.take (k + 1))=pass (run c (s.data.toList.take k) ^^^ s[k].toNat) :=
 run_take c s.data.toList k (by simpa using h)
theorem take_all (s:ByteArray):s.data.toList.take s.size=s.data.toList:=List.take_of_length_le (by simp)
set_option maxRecDepth 100000 in
set_option maxHeartbeats 400000 in
theorem more_any (x:Int) (s:ByteArray) (w:World) (h0:0≤x) (h1:x < 4294967296) (hs:s.size≤maxLen) :
   Calls Tryz.prog 67 #[.int .u32 x,.string s] w fun e w'=>e=.returned (.int .u32 (more x.toNat s.data.toList:Nat))∧w=w':=by
 unfold maxLen at hs
 obtain ⟨n,rfl⟩:=Int.eq_ofNat_of_zero_le h0
 have hn:n < 4294967296:=by omega
 clear h0 h1
 go_enter Tryz.func67,Tryz.ntmps67
 go_wp2
 go_loop [0,10] (fun s0 i=>∃ k:Nat,k≤s.size∧i=.int .i64 k∧s0=.int .u32 (run (inv n) (s.data.toList.take k):Nat)) (fun _ i=>s.size - (intOf i).toNat)
 case atStart=>exact ⟨0,by omega,rfl,by rw [not_u32 hn];rfl⟩
 case round =>
   obtain ⟨k,hk,rfl,rfl⟩:=hrel
   have hr:=run_lt (s.data.toList.take k) (inv_lt hn)
   by_cases hlt:k < s.size
   · have hx:=xor_u32 hr s[k]
     have hl:=xlt hr (byte_lt s[k])
     go_wp2_with fail
     refine (pass_any _ _ (by omega) (by omega)).mono ?_
     rintro e w' ⟨rfl,rfl⟩
     rw [Int.toNat_natCast]
     go_wp2
     go_round
     case rel=>exact ⟨k + 1,by omega,by go_num,by rw [take_at s _ k hlt]⟩
     case measure=>simp [intOf];omega
   · obtain rfl:k=s.size:=by omega
     go_wp2
     go_ret
     exact ⟨ret_u32 (by rw [not_u32 hr,take_all];rfl),rfl⟩
set_option maxRecDepth 100000 in
set_option maxHeartbeats 400000 in
theorem sum_any (s:ByteArray) (w:World) (hs:s.size≤maxLen) :
   Calls Tryz.prog 66 #[.string s] w fun e w'=>e=.returned (.int .u32 (sum s.data.toList:Nat))∧w=w':=by
 go_enter Tryz.func66,Tryz.ntmps66
 go_wp2_with fail
 refine (more_any _ _ _ (by omega) (by omega) hs).mono ?_
 rintro e w' ⟨rfl,rfl⟩
 go_wp2
 go_ret
 exact ⟨rfl,rfl⟩
end Go.Proofs.YtgfinhehgfbdgaaGreatDoor
namespace Go.Proofs.YtgfinhehgfbdgaaGreatDoor
def sumT:List Tok→Nat
 | []=>0
 | t :: r=>lenT t + sumT r
theorem textL_sum (l:List Tok) (b:List UInt8):(textL b l).length=b.length + sumT l:=by
 induction l generalizing b with
 | nil=>rfl
 | cons t r ih=>show (textL (stepT b t) r).length=_;rw [ih,stepT_len,sumT];omega
def cost (l:List Tok):Nat:=(writeL l).length
theorem cost_cons (t:Tok) (r:List Tok):cost (t :: r)=(putT t).length + cost r:=by unfold cost;rw [writeL_cons,List.length_append]
theorem cost_app (l m:List Tok):cost (l ++ m)=cost l + cost m:=by unfold cost;rw [writeL_app,List.length_append]
theorem rep_cost {t:Tok} (h:fine t) (h0:t.own.size=0):1≤(putT t).length∧(putT t).length≤3∧4≤lenT t:=by
 rcases h with ⟨h1,_,_⟩ | ⟨_,h1,h2,h3,h4⟩
 · exact absurd h0 h1
 · refine ⟨putT_pos t,?_,by unfold lenT;omega⟩
   rw [putT_rep h0,List.length_append]
   have e1:=putL_len 1 (2 * (t.size.toNat - 4) + 1) (by omega) (by omega)
   have e2:=putL_len 2 (t.back.toNat - 1) (by omega) (by omega)
   omega
end Go.Proofs.YtgfinhehgfbdgaaGreatDoor
namespace Go.Proofs.YtgfinhehgfbdgaaGreatDoor
open Go.RowKit
def tailC (n k:Nat):Array Value:=((List.range 4).map fun i=>Value.int .u8 (if i < k then (n:Int) / 2 ^ (8 * i) % 256 else 0)).toArray
theorem tailC_size (n k:Nat):(tailC n k).size=4:=by simp [tailC]
theorem tailC_at (n k i:Nat) (h:i < 4):(tailC n k)[i]? = some (.int .u8 (if i < k then (n:Int) / 2 ^ (8 * i) % 256 else 0)):=by
 unfold tailC
 simp [h]
theorem tailC_set (n k:Nat) (hk:k < 4):(tailC n k).setIfInBounds k (.int .u8 ((n:Int) / 2 ^ (8 * k) % 256))=tailC n (k + 1):=by
 apply Array.ext_getElem?
 intro i
 rw [Array.getElem?_setIfInBounds,tailC_size]
 by_cases hi:i < 4
 · by_cases e:k=i
   · subst e;rw [if_pos rfl,if_pos hk,tailC_at _ _ k hi,if_pos (by omega)]
   · rw [if_neg e,tailC_at _ _ i hi,tailC_at _ _ i hi]
     by_cases h2:i < k
     · rw [if_pos h2,if_pos (by omega)]
     · rw [if_neg h2,if_neg (by omega)]
 · rw [Array.getElem?_eq_none (by rw [tailC_size];omega),Array.getElem?_eq_none (by rw [tailC_size];omega),if_neg (by omega)]
theorem tail4_at (n j:Nat) (h:j < (tail4 n).length):((tail4 n)[j].toNat:Int)=(n:Int) / 2 ^ (8 * j) % 256:=by
 have e:∀ m:Nat,((UInt8.ofNat m).toNat:Int)=((m % 256:Nat):Int):=fun m=>by simp
 match j,h with
 | 0,_=>show ((UInt8.ofNat n).toNat:Int)=_;rw [e];simp
 | 1,_=>show ((UInt8.ofNat (n / 256)).toNat:Int)=_;rw [e];simp
 | 2,_=>show ((UInt8.ofNat (n / 65536)).toNat:Int)=_;rw [e];simp
 | 3,_=>show ((UInt8.ofNat (n / 16777216)).toNat:Int)=_;rw [e];simp
 | j + 4,h=>exact absurd h (by simp [tail4])
theorem tail_conv (n:Nat) (w:World):(convert 56 9 (.slice (some ⟨w.heap.size,0,none⟩) 4 4)).run Tryz.prog (w.alloc (.cells (tailC n 4) 181))=.ok (.string ⟨(tail4 n).toArray⟩) (w.alloc (.cells (tailC n 4) 181)):=by
 refine run_convert_bytes_back _ _ _ _ _ _ (tail4 n) Tryz.underlying56 Tryz.underlying5 Tryz.underlying9 fun j hj=>?_
 have hadd:(⟨w.heap.size,0,none⟩:Addr).add j=⟨w.heap.size,j,none⟩:=by unfold Addr.add;split <;> simp_all
 have h4:j < 4:=hj
 rw [hadd,cell_of_row _ _ _ _ _ _ (heap_alloc_new w _),tailC_at _ _ _ h4,if_pos h4,tail4_at n j hj]
set_option maxRecDepth 100000 in
set_option maxHeartbeats 1000000 in
theorem tail_any (s:ByteArray) (w:World) (hs:s.size≤maxLen) :
   Calls Tryz.prog 70 #[.string s] w fun e w'=>e=.returned (.string ⟨(tail4 (sum s.data.toList)).toArray⟩)∧Below w.heap.size w w':=by
 have hl:=sum_lt s.data.toList
 go_enter Tryz.func70,Tryz.ntmps70
 go_wp2_with fail
 refine (sum_any _ _ hs).mono ?_
 rintro e w' ⟨rfl,rfl⟩
 obtain ⟨n,hn⟩:∃ n,n=sum s.data.toList:=⟨_,rfl⟩
 rw [←hn] at hl ⊢
 have HN:=Lib.hid hn
 clear hn
 go_wp2
 go_loopw [8] (fun i wr=>∃ k:Nat,k≤4∧i=.int .i64 k∧wr=w.alloc (.cells (tailC n k) 181)) (fun i _=>4 - (intOf i).toNat)
 case atStart=>exact ⟨0,by omega,rfl,rfl⟩
 case round =>
   obtain ⟨k,hk,rfl,rfl⟩:=hrel
   by_cases hlt:k < 4
   · have hc:=tailC_at n k k hlt
     rw [if_neg (Nat.lt_irrefl k)] at hc
     have hz:=tailC_set n k hlt
     go_wp2
     go_roundw
     case rel=>exact ⟨k + 1,by omega,by go_num,rfl⟩
     case measure=>simp [intOf];omega
   · obtain rfl:k=4:=by omega
     have hconv:=tail_conv n w
     go_wp2
     go_ret
     exact ⟨by rw [HN.out];rfl,(Below.refl _ _).alloc (Nat.le_refl _) _⟩
def sealB (s:ByteArray):ByteArray:=s ++ ⟨(tail4 (sum s.data.toList)).toArray⟩
theorem sealB_data (s:ByteArray):(sealB s).data.toList=sealL s.data.toList:=by unfold sealB sealL;simp
set_option maxRecDepth 100000 in
set_option maxHeartbeats 1000000 in
theorem seal_any (s:ByteArray) (w:World) (hs:s.size≤140737488351232) :
   Calls Tryz.prog 35 #[.string s] w fun e w'=>e=.returned (.string (sealB s))∧Below w.heap.size w w':=by
 have hz:(⟨(tail4 (sum s.data.toList)).toArray⟩:ByteArray).size=4:=rfl
 go_enter Tryz.func35,Tryz.ntmps35
 go_wp2_with fail
 refine (tail_any s _ (by unfold maxLen;omega)).mono ?_
 rintro e w1 ⟨rfl,hb1⟩
 have HB:=Lib.hid hb1
 clear hb1
 go_wp2
 go_ret
 exact ⟨rfl,HB.out⟩
end Go.Proofs.YtgfinhehgfbdgaaGreatDoor
namespace Go.Proofs.YtgfinhehgfbdgaaGreatDoor
open Go.RowKit
theorem sum_known:sum [49,50,51,52,53,54,55,56,57]=3808858755:=by decide +kernel
theorem more_known:more (sum [49,50,51,52]) [53,54,55,56,57]=3808858755:=by decide +kernel
set_option maxRecDepth 100000 in
set_option maxHeartbeats 400000 in
theorem summed_any (w:World) :
   Calls Tryz.prog 31 #[] w fun e w'=>e=.returned (.bool true)∧w=w':=by
 have h1:=sum_known
 have h2:=sum_nil
 have h3:=more_known
 have h4:=sum_lt [49,50,51,52]
 go_enter Tryz.func31,Tryz.ntmps31
 go_wp2_with (first | (go_at_call 66;refine (sum_any _ _ (by decide)).mono ?_;rintro e w' ⟨rfl,rfl⟩) | (go_at_call 67;refine (more_any _ _ _ (Int.natCast_nonneg _) (by omega) (by decide)).mono ?_;rintro e w' ⟨rfl,rfl⟩;rw [Int.toNat_natCast]))
 go_ret
 exact ⟨rfl,rfl⟩
end Go.Proofs.YtgfinhehgfbdgaaGreatDoor
namespace Go.Proofs.YtgfinhehgfbdgaaGreatDoor
open Go.RowKit
def hasV (K:Int):Bool:=decide (K=1) || decide (K=4)
def hasN (K:Int):Bool:=decide (K=3) || decide (K=4)
def idOk (T R:Int):Bool:=decide (1≤T∧T≤1099511627776∧0≤R∧R≤200)
def fitsN (K N:Int):Bool:=if K=3 then decide (-1125899906842624≤N) && decide (N≤1125899906842624) else if K=4 then decide (0≤N) && decide (N≤1000) else true
def wriE (T R K:Int) (key val:ByteArray) (N:Int):Nat :=
 if K < 1∨4 < K then 1 else if idOk T R=false then 2 else if 40 < key.size∨300 < val.size then 4 else if (0 < val.size∧hasV K=false)∨(N≠0∧hasN K=false) then 3 else if fitsN K N=false then 2 else 0
theorem wriE_kind {T R K:Int} {key val:ByteArray} {N:Int} (h:K < 1∨4 < K):wriE T R K key val N=1:=if_pos h
theorem wriE_id {T R K:Int} {key val:ByteArray} {N:Int} (h:¬ (K < 1∨4 < K)) (h1:idOk T R=false):wriE T R K key val N=2:=by unfold wriE;rw [if_neg h,if_pos h1]
theorem wriE_size {T R K:Int} {key val:ByteArray} {N:Int} (h:¬ (K < 1∨4 < K)) (h1:idOk T R=true) (h2:40 < key.size∨300 < val.size):wriE T R K key val N=4:=by
 unfold wriE;rw [if_neg h,if_neg (by rw [h1];decide),if_pos h2]
theorem wriE_rest {T R K:Int} {key val:ByteArray} {N:Int} (h:¬ (K < 1∨4 < K)) (h1:idOk T R=true) (h2:¬ (40 < key.size∨300 < val.size)) :
   wriE T R K key val N=if ((decide (0 < val.size) && !hasV K) || (decide (N≠0) && !hasN K))=true then 3 else if fitsN K N=true then 0 else 2:=by
 unfold wriE
 rw [if_neg h,if_neg (by rw [h1];decide),if_neg h2]
 cases hasV K <;> cases hasN K <;> cases fitsN K N <;> simp
theorem empty_of {s:ByteArray} (h:¬ 0 < s.size):s=⟨#[]⟩:=by
 cases s with
 | mk d => have : d.size = 0 := by have h2 : ¬ 0 < d.size := h; omega
           rw [Array.eq_empty_of_size_eq_zero this]
theorem bne_empty {s:ByteArray} (h:0 < s.size):(s.toList != [])=true:=by
 rw [ByteArray.toList_eq,bne_iff_ne]
 intro e
 have:s.data.toList.length=0:=by rw [e];rfl
 have h2:s.data.toList.length=s.size:=Array.length_toList
 omega
theorem wriE_good {T R K:Int} {key val:ByteArray} {N:Int} (h:wriE T R K key val N=0) :
   ¬ (K < 1∨4 < K)∧idOk T R=true∧key.size≤40∧val.size≤300∧¬ ((0 < val.size∧hasV K=false)∨(N≠0∧hasN K=false))∧fitsN K N=true:=by
 unfold wriE at h
 split at h
 · simp at h
 · split at h
   · simp at h
   · split at h
     · simp at h
     · split at h
       · simp at h
       · split at h
         · simp at h
         · rename_i h1 h2 h3 h4 h5
           exact ⟨h1,by simpa using h2,by omega,by omega,h4,by simpa using h5⟩
end Go.Proofs.YtgfinhehgfbdgaaGreatDoor
