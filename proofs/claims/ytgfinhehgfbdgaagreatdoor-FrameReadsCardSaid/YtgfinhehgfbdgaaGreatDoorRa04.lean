import Derived.Test.YtgfinhehgfbdgaaGreatDoorRa03
namespace Go.Proofs.YtgfinhehgfbdgaaGreatDoor
open Go.RowKit
theorem toLs (s:ByteArray):s.toList=s.data.toList:=ByteArray.toList_eq s
theorem empty_b {s:ByteArray} (h:s.size=0):s.toList.isEmpty=true:=by
 rw [toLs];have hl:=size_data s;cases hd:s.data.toList with
 | nil=>rfl
 | cons a r=>rw [hd,h] at hl;simp at hl
theorem full_b {s:ByteArray} (h:s.size≠0):s.toList.isEmpty=false:=by
 rw [toLs];have hl:=size_data s;cases hd:s.data.toList with
 | nil=>rw [hd] at hl;exact absurd hl h
 | cons a r=>rfl
def tokV (t:Tok):Value:=.agg #[.string t.own,.int .i64 t.back,.int .i64 t.size]
set_option maxRecDepth 100000 in
theorem beyond_no (s:ByteArray) (b n:Int) (w:World) (h1:4≤n) (h2:n≤67) (h3:1≤b) (h4:b≤1024) :
   Calls Tryz.prog 200 #[.agg #[.string s,.int .i64 b,.int .i64 n]] w fun e w'=>e=.returned (.bool false)∧Below w.heap.size w w':=by
 have d1:decide (n<4)=false:=by simp;omega
 have d2:decide (67<n)=false:=by simp;omega
 have d3:decide (b<1)=false:=by simp;omega
 have d4:decide (1024<b)=false:=by simp;omega
 go_enter Tryz.func200,Tryz.ntmps200
 go_wp2;go_ret;exact ⟨rfl,(Below.refl _ _).alloc (Nat.le_refl _) _⟩
set_option maxRecDepth 100000 in
theorem beyond_yes (s:ByteArray) (b n:Int) (w:World) (h:n<4∨67<n∨b<1∨1024<b) :
   Calls Tryz.prog 200 #[.agg #[.string s,.int .i64 b,.int .i64 n]] w fun e w'=>e=.returned (.bool true)∧Below w.heap.size w w':=by
 by_cases c1:n<4
 · have d1:decide (n<4)=true:=by simpa using c1
   clear h;go_enter Tryz.func200,Tryz.ntmps200
   go_wp2;go_ret;exact ⟨rfl,(Below.refl _ _).alloc (Nat.le_refl _) _⟩
 · have d1:decide (n<4)=false:=by simpa using c1
   by_cases c2:67<n
   · have d2:decide (67<n)=true:=by simpa using c2
     clear h;go_enter Tryz.func200,Tryz.ntmps200
     go_wp2;go_ret;exact ⟨rfl,(Below.refl _ _).alloc (Nat.le_refl _) _⟩
   · have d2:decide (67<n)=false:=by simpa using c2
     by_cases c3:b<1
     · have d3:decide (b<1)=true:=by simpa using c3
       clear h;go_enter Tryz.func200,Tryz.ntmps200
       go_wp2;go_ret;exact ⟨rfl,(Below.refl _ _).alloc (Nat.le_refl _) _⟩
     · have d3:decide (b<1)=false:=by simpa using c3
       have c4:1024<b:=by omega
       have d4:decide (1024<b)=true:=by simpa using c4
       clear h;go_enter Tryz.func200,Tryz.ntmps200
       go_wp2;go_ret;exact ⟨rfl,(Below.refl _ _).alloc (Nat.le_refl _) _⟩
set_option maxRecDepth 100000 in
theorem length_any (s:ByteArray) (b n:Int) (w:World) (hs:s.size≤140737488351232) (h0:0≤n) (h1:n≤1000) :
   Calls Tryz.prog 173 #[.agg #[.string s,.int .i64 b,.int .i64 n]] w fun e w'=>e=.returned (.int .i64 (lenT ⟨s,b,n⟩:Nat))∧Below w.heap.size w w':=by
 have HE:Hid (((s.size:Int)+n)=(lenT ⟨s,b,n⟩:Nat)):=by
   have h:((s.size:Int)+n)=(lenT ⟨s,b,n⟩:Nat):=by show _=(((s.size+n.toNat:Nat)):Int);omega
   exact h
 go_enter Tryz.func173,Tryz.ntmps173
 go_wp2;go_ret;exact ⟨by rw [←HE.out];rfl,(Below.refl _ _).alloc (Nat.le_refl _) _⟩
set_option maxRecDepth 100000 in
set_option maxHeartbeats 1000000 in
theorem wrong_any (s:ByteArray) (b n:Int) (a:Nat) (w:World) (hs:s.size≤140737488351232) (ha:a≤20000) :
   Calls Tryz.prog 172 #[.agg #[.string s,.int .i64 b,.int .i64 n],.int .i64 a] w fun e w'=>e=.returned (.int .i64 (wrongN ⟨s,b,n⟩ a:Nat))∧Below w.heap.size w w':=by
 by_cases h0:s.size=0
 · have e1:=empty_b h0;by_cases hz:n=0∧b=0
   · have HW : Hid (wrongN ⟨s, b, n⟩ a = 1) := by
       have h:wrongN ⟨s,b,n⟩ a=1:=by unfold wrongN;rw [if_pos h0,if_pos hz]
       exact h
     obtain ⟨rfl,rfl⟩:=hz;clear h0 hs;go_enter Tryz.func172,Tryz.ntmps172
     go_wp2;go_ret;exact ⟨by rw [HW.out];rfl,(Below.refl _ _).alloc (Nat.le_refl _) _⟩
   · by_cases hy:n<4∨67<n∨b<1∨1024<b
     · have HW : Hid (wrongN ⟨s, b, n⟩ a = 2) := by
         have h:wrongN ⟨s,b,n⟩ a=2:=by unfold wrongN;rw [if_pos h0,if_neg hz,if_pos hy]
         exact h
       have HY:=Lib.hid hy;clear hy;by_cases h1:n=0
       · subst h1;have d1:(b != 0)=true:=by simp;omega
         clear h0 hs hz;go_enter Tryz.func172,Tryz.ntmps172
         go_wp2_with fail
         refine (beyond_yes s b 0 _ HY.out).mono ?_;rintro r w1 ⟨rfl,hb1⟩;have HB:Hid (Below w.heap.size w w1):=((Below.refl _ _).alloc (Nat.le_refl _) _).trans (hb1.mono (by simp));clear hb1;go_wp2;go_ret;exact ⟨by rw [HW.out];rfl,HB.out⟩
       · have d1:(n != 0)=true:=by simp;omega
         clear h0 hs hz h1;go_enter Tryz.func172,Tryz.ntmps172
         go_wp2_with fail
         refine (beyond_yes s b n _ HY.out).mono ?_;rintro r w1 ⟨rfl,hb1⟩;have HB:Hid (Below w.heap.size w w1):=((Below.refl _ _).alloc (Nat.le_refl _) _).trans (hb1.mono (by simp));clear hb1;go_wp2;go_ret;exact ⟨by rw [HW.out];rfl,HB.out⟩
     · have h4:4≤n:=by omega
       have h5:n≤67:=by omega
       have h6:1≤b:=by omega
       have h7:b≤1024:=by omega
       have d1:(n != 0)=true:=by simp;omega
       have HL:Hid ((lenT ⟨s,b,n⟩:Nat)=n.toNat):=by
         have h:lenT ⟨s,b,n⟩=n.toNat:=by show s.size+n.toNat=_;omega
         exact h
       obtain ⟨n,rfl⟩:=Int.eq_ofNat_of_zero_le (show 0≤n by omega);rw [Int.toNat_natCast] at HL;by_cases h8:(a:Int)<b
       · have HW : Hid (wrongN ⟨s, b, n⟩ a = 7) := by
           have h:wrongN ⟨s,b,n⟩ a=7:=by unfold wrongN;rw [if_pos h0,if_neg hz,if_neg hy,if_pos h8]
           exact h
         clear h0 hz hy HL;go_enter Tryz.func172,Tryz.ntmps172
         go_wp2_with fail
         refine (beyond_no s b _ _ h4 h5 h6 h7).mono ?_;rintro r w1 ⟨rfl,hb1⟩;have HB:Hid (Below w.heap.size w w1):=((Below.refl _ _).alloc (Nat.le_refl _) _).trans (hb1.mono (by simp));have c0:w1.cell? ⟨w.heap.size,0,none⟩=some (.string s):=(hb1.cell (by simp)).trans (by simp);have c1:w1.cell? ⟨w.heap.size,1,none⟩=some (.int .i64 b):=(hb1.cell (by simp)).trans (by simp);have c2:w1.cell? ⟨w.heap.size,2,none⟩=some (.int .i64 n):=(hb1.cell (by simp)).trans (by simp);clear hb1;go_wp2;go_ret;exact ⟨by rw [HW.out];rfl,HB.out⟩
       · by_cases h9:20000<(a:Int)+n
         · have HW : Hid (wrongN ⟨s, b, n⟩ a = 4) := by
             have h:wrongN ⟨s,b,n⟩ a=4:=by unfold wrongN;rw [if_pos h0,if_neg hz,if_neg hy,if_neg h8,if_pos h9]
             exact h
           clear h0 hz hy;go_enter Tryz.func172,Tryz.ntmps172
           go_wp2_with fail
           refine (beyond_no s b _ _ h4 h5 h6 h7).mono ?_;rintro r w1 ⟨rfl,hb1⟩;have HB:Hid (Below w.heap.size w w1):=((Below.refl _ _).alloc (Nat.le_refl _) _).trans (hb1.mono (by simp));have c0:w1.cell? ⟨w.heap.size,0,none⟩=some (.string s):=(hb1.cell (by simp)).trans (by simp);have c1:w1.cell? ⟨w.heap.size,1,none⟩=some (.int .i64 b):=(hb1.cell (by simp)).trans (by simp);have c2:w1.cell? ⟨w.heap.size,2,none⟩=some (.int .i64 n):=(hb1.cell (by simp)).trans (by simp);clear hb1;go_wp2_with fail
           refine (length_any s b _ _ hs (by omega) (by omega)).mono ?_;rintro r w2 ⟨rfl,hb2⟩;rw [HL.out];have HB2:Hid (Below w.heap.size w w2):=HB.out.trans (hb2.mono HB.out.size);clear hb2;go_wp2;go_ret;exact ⟨by rw [HW.out];rfl,HB2.out⟩
         · have HW : Hid (wrongN ⟨s, b, n⟩ a = 0) := by
             have h:wrongN ⟨s,b,n⟩ a=0:=by unfold wrongN;rw [if_pos h0,if_neg hz,if_neg hy,if_neg h8,if_neg h9]
             exact h
           clear h0 hz hy;go_enter Tryz.func172,Tryz.ntmps172
           go_wp2_with fail
           refine (beyond_no s b _ _ h4 h5 h6 h7).mono ?_;rintro r w1 ⟨rfl,hb1⟩;have HB:Hid (Below w.heap.size w w1):=((Below.refl _ _).alloc (Nat.le_refl _) _).trans (hb1.mono (by simp));have c0:w1.cell? ⟨w.heap.size,0,none⟩=some (.string s):=(hb1.cell (by simp)).trans (by simp);have c1:w1.cell? ⟨w.heap.size,1,none⟩=some (.int .i64 b):=(hb1.cell (by simp)).trans (by simp);have c2:w1.cell? ⟨w.heap.size,2,none⟩=some (.int .i64 n):=(hb1.cell (by simp)).trans (by simp);clear hb1;go_wp2_with fail
           refine (length_any s b _ _ hs (by omega) (by omega)).mono ?_;rintro r w2 ⟨rfl,hb2⟩;rw [HL.out];have HB2:Hid (Below w.heap.size w w2):=HB.out.trans (hb2.mono HB.out.size);clear hb2;go_wp2;go_ret;exact ⟨by rw [HW.out];rfl,HB2.out⟩
 · have e1:=full_b h0;have e2:(!s.toList.isEmpty)=true:=by rw [e1];rfl
   by_cases hy:n≠0∨b≠0
   · have HW : Hid (wrongN ⟨s, b, n⟩ a = 1) := by
       have h:wrongN ⟨s,b,n⟩ a=1:=by unfold wrongN;rw [if_neg h0,if_pos hy]
       exact h
     by_cases h1:n=0
     · have d0:(n != 0)=false:=by simp;omega
       have d1:(b != 0)=true:=by simp;omega
       clear hy h0 hs h1;go_enter Tryz.func172,Tryz.ntmps172
       go_wp2;go_ret;exact ⟨by rw [HW.out];rfl,(Below.refl _ _).alloc (Nat.le_refl _) _⟩
     · have d1:(n != 0)=true:=by simp;omega
       clear hy h0 hs h1;go_enter Tryz.func172,Tryz.ntmps172
       go_wp2;go_ret;exact ⟨by rw [HW.out];rfl,(Below.refl _ _).alloc (Nat.le_refl _) _⟩
   · obtain ⟨rfl,rfl⟩:n=0∧b=0:=by omega
     have HL:Hid ((lenT ⟨s,0,0⟩:Nat)=s.size):=by
       have h:lenT ⟨s,0,0⟩=s.size:=by show s.size+(0:Int).toNat=_;simp
       exact h
     have h8:¬ (a:Int)<0:=by omega
     by_cases h9:20000<a+s.size
     · have HW : Hid (wrongN ⟨s, 0, 0⟩ a = 4) := by
         have h:wrongN ⟨s,0,0⟩ a=4:=by unfold wrongN;rw [if_neg h0,if_neg hy,if_pos h9]
         exact h
       have h10:20000<(a:Int)+(s.size:Int):=by omega
       clear h0 hy h9;go_enter Tryz.func172,Tryz.ntmps172
       go_wp2_with fail
       refine (length_any s 0 0 _ hs (by omega) (by omega)).mono ?_;rintro r w2 ⟨rfl,hb2⟩;rw [HL.out];have HB2:Hid (Below w.heap.size w w2):=((Below.refl _ _).alloc (Nat.le_refl _) _).trans (hb2.mono (by simp));clear hb2;go_wp2;go_ret;exact ⟨by rw [HW.out];rfl,HB2.out⟩
     · have HW : Hid (wrongN ⟨s, 0, 0⟩ a = 0) := by
         have h:wrongN ⟨s,0,0⟩ a=0:=by unfold wrongN;rw [if_neg h0,if_neg hy,if_neg h9]
         exact h
       have h10:¬ 20000<(a:Int)+(s.size:Int):=by omega
       clear h0 hy h9;go_enter Tryz.func172,Tryz.ntmps172
       go_wp2_with fail
       refine (length_any s 0 0 _ hs (by omega) (by omega)).mono ?_;rintro r w2 ⟨rfl,hb2⟩;rw [HL.out];have HB2:Hid (Below w.heap.size w w2):=((Below.refl _ _).alloc (Nat.le_refl _) _).trans (hb2.mono (by simp));clear hb2;go_wp2;go_ret;exact ⟨by rw [HW.out];rfl,HB2.out⟩
end Go.Proofs.YtgfinhehgfbdgaaGreatDoor
namespace Go.Proofs.YtgfinhehgfbdgaaGreatDoor
open Go.RowKit
theorem ownsB.lt {w:World} {base:Nat} {v:Value} {l:List UInt8} (h:ownsB w base v l):∀ k,v.ownBlock=some k→base≤k∧k<w.heap.size:=World.ownsRow.lt h
theorem ownsB.forms {w:World} {base:Nat} {v:Value} {l:List UInt8} (h:ownsB w base v l) :
   (v=.slice none 0 0∧l=[])∨∃ g cap,v=.slice (some ⟨g,0,none⟩) l.length cap∧base≤g∧g<w.heap.size∧∀ j,j<l.length→w.cell? ⟨g,j,none⟩=some (.int .u8 ((l.getD j 0).toNat:Int)):=by
 have hall:=h;obtain ⟨h0,h1⟩:=h;rcases h1 with ⟨rfl,hn⟩ | ⟨g,cap,cur,rfl,hb,hh,hc,hm,hs,ht⟩
 · exact .inl ⟨rfl,List.length_eq_zero_iff.1 hn⟩
 · refine .inr ⟨g,cap,rfl,hb,(World.ownsRow.lt hall g rfl).2,fun j hj=>?_⟩;rw [World.ownsRow.cellAt hall j (by omega)];simp [List.getElem?_eq_getElem hj,byteV]
theorem ownsB.ne_tok {w:World} {base B:Nat} {v:Value} {l:List UInt8} {t:Tok} (h:ownsB w base v l) (hb:tokBlk w B t):v.ownBlock≠some B:=by
 rcases h.2 with ⟨rfl,_⟩ | ⟨g',cap,cur,rfl,_,hh,_⟩
 · simp [Value.ownBlock]
 · intro he;have:g'=B:=by simpa [Value.ownBlock] using he
   subst this;unfold tokBlk at hb;rw [hh] at hb;injection hb with hb
   injection hb with _ ht
   exact absurd ht (by decide)
theorem tokBlk.lt {w:World} {B:Nat} {t:Tok} (h:tokBlk w B t):B<w.heap.size:=by
 rcases Nat.lt_or_ge B w.heap.size with hlt | hge
 · exact hlt
 · unfold tokBlk at h;rw [Array.getElem?_eq_none hge] at h;cases h
theorem tokBlk.alloc {w:World} {B:Nat} {t:Tok} (h:tokBlk w B t) (o:Obj):tokBlk (w.alloc o) B t:=(Below.heap_alloc w o B h.lt).trans h
theorem tokBlk.grown {w w':World} {B:Nat} {t:Tok} {row:Option Nat} (h:tokBlk w B t) (hg:w.grownBy w' row) (hne:row≠some B):tokBlk w' B t:=(hg.block B h.lt (fun e=>hne e.symm)).trans h
theorem tokBlk.cells {w:World} {B:Nat} {t:Tok} (h:tokBlk w B t):w.cell? ⟨B,0,none⟩=some (.string t.own)∧w.cell? ⟨B,1,none⟩=some (.int .i64 t.back)∧w.cell? ⟨B,2,none⟩=some (.int .i64 t.size) :=
 ⟨cell_of_row w B 0 _ _ (0,0) h,cell_of_row w B 1 _ _ (0,0) h,cell_of_row w B 2 _ _ (0,0) h⟩
theorem wpList_append_text {w:World} {ops:Array Oper} {rest:List Oper} {o:Oper} {a:Act} {Q:Exit→Act→World→Prop} (hgd:o.guard=none) (s x:Operand)
   (ho:o.op=.call { callee:=.builtin .append,args:=#[s,x],argTypes:=#[56,9] })
   (base:Nat) (v:Value) (l:List UInt8) (hs:a.eval s=v) (hown:ownsB w base v l)
   (t:ByteArray) (hx:a.eval x=.string t) (hlen:l.length+t.size≤140737488355328) (hbase:base≤w.heap.size)
   (h:∀ v' w',ownsB w' base v' (l++t.data.toList)→w.grownBy w' v.ownBlock→wpList Tryz.prog ops Q rest (a.put o.dst v') w'):wpList Tryz.prog ops Q (o::rest) a w:=by
 obtain ⟨i0,hi,hz0,hz1,hz2⟩:=info_parts info_u8;refine Go.Lib.wpList_append_own_string w hgd s x 56 9 ho base 5 i0 Tryz.underlying56 Tryz.underlying9 hi hz0 hz1 hz2 v l.length (l.map byteV) hs hown t hx (by unfold maxLen;omega) hlen hbase ?_;intro v' w' h1 h2 _;refine h v' w' ?_ h2;unfold ownsB;rw [List.length_append,List.map_append,Array.length_toList];exact h1
end Go.Proofs.YtgfinhehgfbdgaaGreatDoor
namespace Go.Proofs.YtgfinhehgfbdgaaGreatDoor
open Go.ChangeShapes Go.WideShapes Go.ChangeAt Go.RowKit
instance : Inhabited Ent:=⟨⟨0,0⟩⟩
end Go.Proofs.YtgfinhehgfbdgaaGreatDoor
namespace Go.Proofs.YtgfinhehgfbdgaaGreatDoor
open Go.RowKit
theorem kclone_any (s:ByteArray) (w:World) (hs:s.size≤281474976710656) :
   Calls Tryz.prog 145 #[.string s] w fun e w'=>e=.returned (.string s)∧Below w.heap.size w w':=by
 go_enter Tryz.func145,Tryz.ntmps145
 go_wp2_with fail
 refine (Tryz.stringslite_Clone s _ hs).mono ?_;rintro r w1 ⟨rfl,hb1⟩;go_wp2;go_ret;exact ⟨rfl,hb1⟩
def TabIs (w:World) (l:List ByteArray) (e:Ending) (w':World):Prop :=
 ∃ v1 v2,e=.returned (.tuple #[v1,v2])∧ownsS w' w.heap.size v1 (tabK [] l)∧ownsN w' w.heap.size v2 (atK [] l)∧Below w.heap.size w w'
set_option maxRecDepth 100000 in
set_option maxHeartbeats 4000000 in
theorem ktab_any (v:Value) (l:List ByteArray) (w:World) (hv:IsTexts w v l) (hl:l.length≤1000000) (hs:∀ s∈l,s.size≤140737488351232) :
   Calls Tryz.prog 112 #[v] w (TabIs w l):=by
 obtain ⟨a1,c1,rfl,_,f1⟩:=hv;have F1:=Lib.hid f1;have HS:=Lib.hid hs;obtain ⟨n,hn⟩:∃ n,n=l.length:=⟨_,rfl⟩;rw [←hn] at hl ⊢;have HN:=Lib.hid hn;clear f1 hs hn;have hmm:=@run_makeMap Tryz.prog;go_enter Tryz.func112,Tryz.ntmps112
 go_wp2
 go_loopw [2, 3, 12] (fun t a i wr => ∃ (k : Nat) (T : List ByteArray) (N : List Nat), k ≤ n ∧ i = .int .i64 k ∧ T.length ≤ k ∧ N.length = k ∧ tabK [] l = tabK T (l.drop k) ∧ atK [] l = N ++ atK T (l.drop k) ∧
     ownsNum wr w.heap.size k T∧ownsS wr (w.heap.size+1) t T∧ownsN wr (w.heap.size+1) a N∧w.heap.size+1≤wr.heap.size∧Below w.heap.size w wr) (fun _ _ i _=>n-(intOf i).toNat)
 case atStart=>exact ⟨0,[],[],Nat.zero_le _,rfl,Nat.le_refl _,rfl,rfl,rfl,ownsNum_made _,ownsS_nil _ _,ownsN_nil _ _,by simp,(Below.refl _ _).alloc (Nat.le_refl _) _⟩
 case round =>
   obtain ⟨k,T,N,hk,rfl,hT,hN,ht,ha,hmap,hos,hon,hz,hbel⟩:=hrel;have HT:=Lib.hid ht;have HA:=Lib.hid ha;have HM:=Lib.hid hmap;have HO:=Lib.hid hos;have HQ:=Lib.hid hon;have HB:=Lib.hid hbel;have HZ:=Lib.hid hz;have HNL:=Lib.hid hN;have HTL:=Lib.hid hT;obtain ⟨ad,cp,rfl,_,_⟩:=hos.isTexts;clear ht ha hmap hos hon hbel hN hT hz;by_cases hlt:k<n
   · obtain ⟨s, hs⟩ : ∃ s, l[k]? = some s := ⟨l[k]'(by have := HN.out; omega), List.getElem?_eq_getElem _⟩;obtain ⟨b1,o1,rfl,hb1,p0⟩:=F1.out k s hs;have q0:=(HB.out.cell (p:=⟨b1,o1+k,none⟩) hb1).trans p0;have HSZ:Hid (s.size≤140737488351232):=Lib.hid (HS.out s (List.mem_of_getElem? hs));have hsz:s.size≤maxLen:=by have:=HSZ.out;unfold maxLen;omega
     by_cases hin:s∈T
     · have HJ:=Lib.hid (idxB_get hin);have HT2:=Lib.hid (HT.out.trans (tabK_in hs hin));have HA2:=Lib.hid (HA.out.trans (congrArg (N ++ ·) (atK_in hs hin)));obtain ⟨j,hj⟩:∃ j,idxB T s=j:=⟨_,rfl⟩;rw [hj] at HJ HA2;clear p0 hs hj;go_wp2_with (first
         | (at_lookup;refine wpList_num_there rfl _ _ rfl w.heap.size k T rfl HM.out s rfl hsz j HJ.out ?_)
         | (at_builtin;refine wpList_append_int rfl _ _ rfl (w.heap.size+1) _ N rfl (HQ.out.alloc _) ⟨wr.heap.size,0,none⟩ 1 rfl j ?c1 ?c2 ?c3 ?_))
       case c1=>simp [Addr.add]
       case c2=>have:=HNL.out;omega
       case c3=>have:=HZ.out;simp;omega
       intro g cap w1 ho1 hg1;have hbel1:Below w.heap.size w w1:=(HB.out.alloc HB.out.size _).grown hg1 (by have:=HB.out.size;simp;omega) (fun g hg=>by have:=(HQ.out.lt g hg).1;omega);have hm1:ownsNum w1 w.heap.size (k+1) T:=((HM.out.mono (Nat.le_succ k)).alloc _).kept hg1 (by intro e;exact HQ.out.off (Nat.lt_succ_self _) e.symm);have hs1:ownsS w1 (w.heap.size+1) _ T:=World.ownsRow.kept (HO.out.alloc _) hg1 (rows_apart HO.out HQ.out (show 9≠3 by decide));have hz1:w.heap.size+1≤w1.heap.size:=by have:=HZ.out;have:=hg1.size;simp at this;omega
       have ha1:atK [] l=(N++[j])++atK T (l.drop (k+1)):=by rw [HA2.out];simp
       have hn1:(N++[j]).length=k+1:=by have:=HNL.out;simp;omega
       have HNL1:Hid (N.length+1=(N++[j]).length):=Lib.hid (show N.length+1=(N++[j]).length by simp);rw [HNL1.out] at ho1;have HX:=Lib.hid (And.intro hbel1 (And.intro hm1 (And.intro hs1 (And.intro hz1 (And.intro ha1 (And.intro hn1 ho1))))));clear hbel1 hm1 hs1 hz1 ha1 hn1 ho1 hg1;go_wp2;go_roundw
       case rel=>exact ⟨k+1,T,N++[j],by omega,by go_num,by have:=HTL.out;omega,HX.out.2.2.2.2.2.1,HT2.out,HX.out.2.2.2.2.1,HX.out.2.1,HX.out.2.2.1,by simpa using HX.out.2.2.2.2.2.2,HX.out.2.2.2.1,HX.out.1⟩
       case measure=>simp [intOf];omega
     · have HT2:=Lib.hid (HT.out.trans (tabK_new hs hin));have HA2:=Lib.hid (HA.out.trans (congrArg (N ++ ·) (atK_new hs hin)));have HTM:Hid (T.length≤maxLen):=Lib.hid (by show T.length≤maxLen;have:=HTL.out;unfold maxLen;omega);clear p0 hs;go_wp2_with (first
         | (at_lookup;refine wpList_num_none rfl _ _ rfl w.heap.size k T rfl HM.out s rfl hsz hin ?_;intro c)
         | (at_mapUpdate;refine wpList_num_put rfl _ _ _ rfl w.heap.size k T rfl HM.out (by unfold maxLen;omega) s rfl rfl hsz hin HTM.out ?_;intro w1 hm1 hg1))
       have hbel1:Below w.heap.size w w1:=HB.out.grown hg1 HB.out.size (fun g hg=>by cases hg;exact Nat.le_refl _);have hs1:ownsS w1 (w.heap.size+1) _ T:=World.ownsRow.kept HO.out hg1 (.inr (HO.out.off (Nat.lt_succ_self _)));have hn1:ownsN w1 (w.heap.size+1) _ N:=World.ownsRow.kept HQ.out hg1 (.inr (HQ.out.off (Nat.lt_succ_self _)));have hz1:w.heap.size+1≤w1.heap.size:=Nat.le_trans HZ.out hg1.size;have HX:=Lib.hid (And.intro hbel1 (And.intro hm1 (And.intro hs1 (And.intro hn1 hz1))));clear hbel1 hm1 hs1 hn1 hz1 hg1;refine (kclone_any s w1 (by have:=HSZ.out;omega)).mono ?_;rintro r w2 ⟨rfl,hb2⟩;have HB2:=Lib.hid (HX.out.1.trans (hb2.mono HX.out.1.size));have HM2:=Lib.hid (HX.out.2.1.below hb2);have HS2:=Lib.hid (HX.out.2.2.1.below hb2);have HN2:=Lib.hid (HX.out.2.2.2.1.below hb2);have HZ2:=Lib.hid (Nat.le_trans HX.out.2.2.2.2 hb2.size);clear hb2 HX HM HO HQ HB HZ;go_wp2_with (at_builtin;refine wpList_append_str rfl _ _ rfl (w.heap.size+1) _ T rfl (HS2.out.alloc _) ⟨w2.heap.size,0,none⟩ 1 rfl s ?c1 ?c2 ?c3 ?_)
       case c1=>simp [Addr.add]
       case c2=>have:=HTL.out;omega
       case c3=>have:=HZ2.out;simp;omega
       intro g cap w3 ho3 hg3;have HB3:Hid (Below w.heap.size w w3):=(HB2.out.alloc HB2.out.size _).grown hg3 (by have:=HB2.out.size;simp;omega) (fun g hg=>by have:=(HS2.out.lt g hg).1;omega);have HM3:=Lib.hid ((HM2.out.alloc _).kept hg3 (by intro e;exact HS2.out.off (Nat.lt_succ_self _) e.symm));have HN3:=Lib.hid (show ownsN w3 (w.heap.size+1) _ N from World.ownsRow.kept (HN2.out.alloc _) hg3 (rows_apart HN2.out HS2.out (show 3≠9 by decide)));have HZ3:Hid (w.heap.size+1≤w3.heap.size):=Lib.hid (by show _≤_;have:=HZ2.out;have:=hg3.size;simp at this;omega);have HS3:=Lib.hid ho3;clear ho3 hg3 HB2 HM2 HS2 HN2 HZ2;go_wp2_with (at_builtin;refine wpList_append_int rfl _ _ rfl (w.heap.size+1) _ N rfl (HN3.out.alloc _) ⟨w3.heap.size,0,none⟩ 1 rfl T.length ?d1 ?d2 ?d3 ?_)
       case d1=>simp [Addr.add]
       case d2=>have:=HNL.out;omega
       case d3=>have:=HZ3.out;simp;omega
       intro g' cap' w4 ho4 hg4;have HB4:Hid (Below w.heap.size w w4):=(HB3.out.alloc HB3.out.size _).grown hg4 (by have:=HB3.out.size;simp;omega) (fun g hg=>by have:=(HN3.out.lt g hg).1;omega);have HM4:=Lib.hid ((HM3.out.alloc _).kept hg4 (by intro e;exact HN3.out.off (Nat.lt_succ_self _) e.symm));have HS4:=Lib.hid (show ownsS w4 (w.heap.size+1) _ (T++[s]) from World.ownsRow.kept (HS3.out.alloc _) hg4 (rows_apart HS3.out HN3.out (show 9≠3 by decide)));have HZ4:Hid (w.heap.size+1≤w4.heap.size):=Lib.hid (by show _≤_;have:=HZ3.out;have:=hg4.size;simp at this;omega);have HN4:=Lib.hid ho4;have HA4:Hid (atK [] l=(N++[T.length])++atK (T++[s]) (l.drop (k+1))):=Lib.hid (show _=_ by rw [HA2.out];simp);have HL4:Hid ((N++[T.length]).length=k+1∧(T++[s]).length≤k+1):=Lib.hid (show _∧_ by have:=HNL.out;have:=HTL.out;simp;omega);clear ho4 hg4 HB3 HM3 HS3 HN3 HZ3 HA2;go_wp2;go_roundw
       case rel=>exact ⟨k+1,T++[s],N++[T.length],by omega,by go_num,HL4.out.2,HL4.out.1,HT2.out,HA4.out,HM4.out,HS4.out,HN4.out,HZ4.out,HB4.out⟩
       case measure=>simp [intOf];omega
   · have HT2:Hid (tabK [] l=T):=Lib.hid (show _=_ by rw [HT.out,List.drop_eq_nil_of_le (by have:=HN.out;omega)];rfl);have HA2:Hid (atK [] l=N):=Lib.hid (show _=_ by rw [HA.out,List.drop_eq_nil_of_le (by have:=HN.out;omega)];simp [atK]);go_wp2;go_ret2;refine ⟨_,_,rfl,?_,?_,HB.out⟩
     · rw [HT2.out];exact HO.out.mono (Nat.le_succ _)
     · rw [HA2.out];exact HQ.out.mono (Nat.le_succ _)
end Go.Proofs.YtgfinhehgfbdgaaGreatDoor
namespace Go.Proofs.YtgfinhehgfbdgaaGreatDoor
open Go.RowKit Go.Maps
theorem zeroT (w:World):(zeroValue 4).run Tryz.prog w=.ok (.bool false) w:=by kernel_rfl
theorem keyedI:Keyed Tryz.prog 3:=int_keyed Tryz.underlying3
def ownsSet (w:World) (b n:Nat) (t:List ByteArray):Prop:=∃ D,SetM D t∧w.ownsMap Tryz.prog 9 (plainElem Tryz.prog 4) b n D
theorem ownsSet_made (w:World):ownsSet (w.alloc (.map #[] 0)) w.heap.size 0 []:=⟨_,setM_nil,World.ownsMap_made _ _ _ _⟩
section
variable {w:World} {ops:Array Oper} {rest:List Oper} {o:Oper} {a:Act} {Q:Exit→Act→World→Prop}
theorem wpList_set_look (hg:o.guard=none) (m x:Operand) (hop:o.op=Op.lookup 257 m x false) (b n:Nat) (t:List ByteArray)
   (hm:a.eval m=.map (some b)) (hown:ownsSet w b n t) (s:ByteArray) (hx:a.eval x=.string s) (hs:s.size≤maxLen) (v:Bool) (hv:if v then s∈t else s ∉ t)
   (hK:wpList Tryz.prog ops Q rest (a.put o.dst (.bool v)) w):wpList Tryz.prog ops Q (o::rest) a w:=by
 obtain ⟨D,h1,h2⟩:=hown;refine wpList_lookup_own_is w hg m x _ hop 9 4 keyedS Tryz.underlying257 _ (zeroT w) (.lit (.bool false)) [] (plainElem_bool Tryz.underlying4 false) b n D hm h2 _ _ hx (keyS hs) (.bool v) ?_ hK;intro v' ps hv';obtain ⟨y,rfl,hy⟩:=plainElem_bool_inv Tryz.underlying4 hv';cases v with
 | true=>rw [h1.there s (by simpa using hv)] at hy;simp at hy;rw [hy.1]
 | false=>rw [h1.none s (by simpa using hv)] at hy;simp at hy;rw [hy.1]
theorem wpList_set_put (hg:o.guard=none) (m x v:Operand) (hop:o.op=Op.mapUpdate 257 m x v) (b n:Nat) (t:List ByteArray)
   (hm:a.eval m=.map (some b)) (hown:ownsSet w b n t) (hn:n<maxLen) (s:ByteArray) (hx:a.eval x=.string s) (hv:a.eval v=.bool true) (hs:s.size≤maxLen)
   (hK:∀ w',ownsSet w' b (n+1) (t++[s])→w.grownBy w' (some b)→wpList Tryz.prog ops Q rest (a.put o.dst undef) w'):wpList Tryz.prog ops Q (o::rest) a w:=by
 obtain ⟨D,h1,h2⟩:=hown;refine wpList_mapUpdate_own w hg m x v _ hop 9 4 keyedS Tryz.underlying257 _ b n D hm h2 hn _ _ _ hx hv (keyS hs) (.lit (.bool true)) [] (plainElem_bool Tryz.underlying4 true) ?_;intro w' h3 h4;exact hK w' ⟨_,h1.put s,h3⟩ h4
end
def ownsTold (w:World) (b n m:Nat):Prop:=∃ D,ToldM D m∧w.ownsMap Tryz.prog 3 (plainElem Tryz.prog 4) b n D
theorem ownsTold_made (w:World):ownsTold (w.alloc (.map #[] 0)) w.heap.size 0 0:=⟨_,toldM_nil,World.ownsMap_made _ _ _ _⟩
theorem ownsTold.kept {w w':World} {b n m:Nat} {row:Option Nat} (h:ownsTold w b n m) (hg:w.grownBy w' row) (hne:some b≠row):ownsTold w' b n m:=by
 obtain ⟨D,h1,h2⟩:=h;exact ⟨D,h1,h2.kept hg hne⟩
theorem ownsTold.alloc {w:World} {b n m:Nat} (h:ownsTold w b n m) (o:Obj):ownsTold (w.alloc o) b n m:=by
 obtain ⟨D,h1,h2⟩:=h;exact ⟨D,h1,h2.alloc o⟩
section
variable {w:World} {ops:Array Oper} {rest:List Oper} {o:Oper} {a:Act} {Q:Exit→Act→World→Prop}
theorem wpList_told_len (hg:o.guard=none) (m:Operand) (hop:o.op=Op.call { callee:=Callee.builtin Builtin.len,args:=#[m],argTypes:=#[193] }) (b n k:Nat) (hm:a.eval m=.map (some b)) (hown:ownsTold w b n k)
   (hK:wpList Tryz.prog ops Q rest (a.put o.dst (.int .i64 (k:Nat))) w):wpList Tryz.prog ops Q (o::rest) a w:=by
 obtain ⟨D,h1,h2⟩:=hown;refine wpList_len_own w hg m _ hop 3 4 Tryz.underlying193 _ b n D hm h2 ?_;rw [h1.size];exact hK
theorem wpList_told_put (hg:o.guard=none) (m x v:Operand) (hop:o.op=Op.mapUpdate 193 m x v) (b n k:Nat) (hm:a.eval m=.map (some b)) (hown:ownsTold w b n k) (hn:n<maxLen)
   (j:Nat) (hj:j≤k) (hk:k≤1000000) (hx:a.eval x=.int .i64 (j:Nat)) (hv:a.eval v=.bool true)
   (hK:∀ w',ownsTold w' b (n+1) (if j=k then k+1 else k)→w.grownBy w' (some b)→wpList Tryz.prog ops Q rest (a.put o.dst undef) w'):wpList Tryz.prog ops Q (o::rest) a w:=by
 obtain ⟨D,h1,h2⟩:=hown;refine wpList_mapUpdate_own w hg m x v _ hop 3 4 keyedI Tryz.underlying193 _ b n D hm h2 hn _ _ _ hx hv (keyOf_int_mk Tryz.underlying3 (WalkArith.wf_i64 (by omega))) (.lit (.bool true)) [] (plainElem_bool Tryz.underlying4 true) ?_;intro w' h3 h4;refine hK w' ⟨_,?_,h3⟩ h4;by_cases e:j=k
 · subst e;rw [if_pos rfl];exact h1.new
 · rw [if_neg e];exact h1.old (by omega)
end
end Go.Proofs.YtgfinhehgfbdgaaGreatDoor
namespace Go.Proofs.YtgfinhehgfbdgaaGreatDoor
open Go.RowKit
theorem step_append_tok (w:World) {ops:Array Oper} {o:Oper} {a:Act} {K:Act→World→Prop} {Q:Exit→Act→World→Prop} {E:Prop} (hgd:o.guard=none) (s x:Operand)
   (ho:o.op=.call { callee:=.builtin .append,args:=#[s,x],argTypes:=#[89,89] })
   (base:Nat) (v:Value) (l:List Tok) (hs:a.eval s=v) (hown:ownsK w base v l)
   (B c:Nat) (hx:a.eval x=.slice (some ⟨B,0,none⟩) 1 c) (t:Tok) (hcell:tokBlk w B t)
   (hlen:l.length+1≤1000000) (hbase:base≤w.heap.size)
   (h:∀ g cap w',ownsK w' base (.slice (some ⟨g,0,none⟩) (l.length+1) cap) (l++[t])→w.grownBy w' v.ownBlock→K (a.put o.dst (.slice (some ⟨g,0,none⟩) (l.length+1) cap)) w') :
   if Region.wanted o (yielded ops a.tmps)=true then Oper.wp Tryz.prog o a w K Q else E:=by
 obtain ⟨i0,hi,hz0,hz1,hz2⟩:=info_parts info_tok;refine step_append_lies w hgd s x 89 ho base 163 i0 (.agg #[.string ⟨#[]⟩,.int .i64 0,.int .i64 0]) 3 32 Tryz.underlying89 hi hz0 hz1 hz2 rfl (by decide) v l.length (toksC l) hs hown ⟨B,0,none⟩ 1 c (tokC t) hx rfl ?_ ?_ (by decide) (by unfold maxLen;omega) (by omega) hbase _ rfl ?_
 · intro j u hj;have hadd:(⟨B,0,none⟩:Addr).add j=⟨B,j,none⟩:=by unfold Addr.add;split <;> simp_all
   rw [hadd,cell_of_row _ _ _ _ _ _ hcell,←hj];unfold tokC;simp
 · intro u hu;simp [tokC] at hu;rcases hu with rfl | rfl | rfl <;> rfl
 · intro g cap w' h1 h2 _ _;refine h g cap w' ?_ h2;unfold ownsK;rw [List.length_append,toksC_app]
   simpa [toksC] using h1
end Go.Proofs.YtgfinhehgfbdgaaGreatDoor
namespace Go.Proofs.YtgfinhehgfbdgaaGreatDoor
open Go.RowKit
theorem eq_step {l m:List Ent} {k:Nat} (h:l.take k=m.take k) {t u:Ent} (hl:l[k]? = some t) (hm:m[k]? = some u) (e:t=u):l.take (k+1)=m.take (k+1):=by
 obtain ⟨h1,h2⟩:=List.getElem?_eq_some_iff.1 hl;obtain ⟨h3,h4⟩:=List.getElem?_eq_some_iff.1 hm;rw [List.take_succ_eq_append_getElem h1,List.take_succ_eq_append_getElem h3,h,h2,h4,e]
end Go.Proofs.YtgfinhehgfbdgaaGreatDoor
namespace Go.Proofs.YtgfinhehgfbdgaaGreatDoor
open Go.RowKit
set_option maxRecDepth 100000 in
set_option maxHeartbeats 400000 in
theorem pass_any (x:Int) (w:World) (h0:0≤x) (h1:x<4294967296) :
   Calls Tryz.prog 126 #[.int .u32 x] w fun e w'=>e=.returned (.int .u32 (pass x.toNat:Nat))∧w=w':=by
 obtain ⟨n,rfl⟩:=Int.eq_ofNat_of_zero_le h0;have hn:n<4294967296:=by omega
 clear h0 h1;go_enter Tryz.func126,Tryz.ntmps126
 go_wp2
 go_loop [0,4] (fun s i=>∃ k:Nat,k≤8∧i=.int .i64 k∧s=.int .u32 (stn k n:Nat)) (fun _ i=>8-(intOf i).toNat)
 case atStart=>exact ⟨0,by omega,rfl,rfl⟩
 case round =>
   obtain ⟨k,hk,rfl,rfl⟩:=hrel;have hs:=stn_lt k hn;by_cases hlt:k<8
   · go_wp2
     · have ht:=and_one_yes hs (by assumption)
       go_round
       case rel=>exact ⟨k+1,by omega,by go_num,by rw [st_yes hs ht];rfl⟩
       case measure=>simp [intOf];omega
     · have ht:=and_one_no hs (by assumption)
       go_round
       case rel=>exact ⟨k+1,by omega,by go_num,by rw [st_no ht];rfl⟩
       case measure=>simp [intOf];omega
   · obtain rfl:k=8:=by omega
     go_wp2;go_ret;exact ⟨rfl,rfl⟩
end Go.Proofs.YtgfinhehgfbdgaaGreatDoor
namespace Go.Proofs.YtgfinhehgfbdgaaGreatDoor
open Go.RowKit
instance : DecidableEq Wr:=fun a b=>decidable_of_iff (a.time=b.time∧a.rep=b.rep∧a.kind=b.kind∧a.key=b.key∧a.value=b.value∧a.n=b.n) (by cases a;cases b;simp)
theorem wq_step {l m:List Wr} {k:Nat} (h:l.take k=m.take k) {t u:Wr} (hl:l[k]? = some t) (hm:m[k]? = some u) (e:t=u):l.take (k+1)=m.take (k+1):=by
 obtain ⟨h1,h2⟩:=List.getElem?_eq_some_iff.1 hl;obtain ⟨h3,h4⟩:=List.getElem?_eq_some_iff.1 hm;rw [List.take_succ_eq_append_getElem h1,List.take_succ_eq_append_getElem h3,h,h2,h4,e]
end Go.Proofs.YtgfinhehgfbdgaaGreatDoor
namespace Go.Proofs.YtgfinhehgfbdgaaGreatDoor
def putT (t:Tok):List UInt8 :=
 if t.own.size=0 then putL (2 * (t.size.toNat-4)+1)++putL (t.back.toNat-1) else putL (2 * t.own.size)++t.own.data.toList
def writeL (l:List Tok):List UInt8:=l.flatMap putT
theorem writeL_cons (t:Tok) (l:List Tok):writeL (t::l)=putT t++writeL l:=by simp [writeL]
theorem writeL_nil:writeL []=[]:=rfl
theorem writeL_app (l m:List Tok):writeL (l++m)=writeL l++writeL m:=by simp [writeL]
def writeF (l:List Tok):List UInt8:=if (rightF l 0 0).1=0 then writeL l else []
def bkL (l:List UInt8):Nat×Nat×Nat:=if (getL l).2.2≠0 then (0,0,(getL l).2.2) else if 1023<(getL l).1 then (0,0,2) else getL l
def getT (l:List UInt8):(Nat×Nat) ⊕ (Tok×Nat) :=
 if (getL l).2.2≠0 then .inl ((getL l).2.2,0)
 else if (getL l).1 % 2=0 then
   if (getL l).1=0 then .inl (3,0)
   else if l.length<(getL l).2.1+(getL l).1 / 2 then .inl (7,l.length)
   else .inr (⟨⟨((l.drop (getL l).2.1).take ((getL l).1 / 2)).toArray⟩,0,0⟩,(getL l).2.1+(getL l).1 / 2)
 else if 63<(getL l).1 / 2 then .inl (2,0)
 else if (bkL (l.drop (getL l).2.1)).2.2≠0 then .inl ((bkL (l.drop (getL l).2.1)).2.2,(getL l).2.1)
 else .inr (repT ((bkL (l.drop (getL l).2.1)).1+1) ((getL l).1 / 2+4),(getL l).2.1+(bkL (l.drop (getL l).2.1)).2.1)
theorem getT_num {l:List UInt8} {n k e:Nat} (h:getL l=(n,k,e)) (he:e≠0):getT l=.inl (e,0):=by
 unfold getT;rw [h];rw [if_pos (by exact he)]
theorem getT_zero {l:List UInt8} {k:Nat} (h:getL l=(0,k,0)):getT l=.inl (3,0):=by
 unfold getT;rw [h];rw [if_neg (by simp),if_pos (by rfl),if_pos rfl]
theorem getT_miss {l:List UInt8} {n k:Nat} (h:getL l=(n,k,0)) (h2:n % 2=0) (h0:n≠0) (hl:l.length<k+n / 2):getT l=.inl (7,l.length):=by
 unfold getT;rw [h];rw [if_neg (by simp),if_pos h2,if_neg h0,if_pos hl]
theorem getT_own {l:List UInt8} {n k:Nat} (h:getL l=(n,k,0)) (h2:n % 2=0) (h0:n≠0) (hl:¬ l.length<k+n / 2) :
   getT l=.inr (⟨⟨((l.drop k).take (n / 2)).toArray⟩,0,0⟩,k+n / 2):=by
 unfold getT;rw [h];rw [if_neg (by simp),if_pos h2,if_neg h0,if_neg hl]
theorem getT_big {l:List UInt8} {n k:Nat} (h:getL l=(n,k,0)) (h2:¬ n % 2=0) (hb:63<n / 2):getT l=.inl (2,0):=by
 unfold getT;rw [h];rw [if_neg (by simp),if_neg h2,if_pos hb]
theorem getT_back {l:List UInt8} {n k m j e:Nat} (h:getL l=(n,k,0)) (h2:¬ n % 2=0) (hb:¬ 63<n / 2) (hk:bkL (l.drop k)=(m,j,e)) (he:e≠0):getT l=.inl (e,k):=by
 unfold getT;rw [h];rw [if_neg (by simp),if_neg h2,if_neg hb];simp only [hk]
 rw [if_pos he]
theorem getT_rep {l:List UInt8} {n k m j:Nat} (h:getL l=(n,k,0)) (h2:¬ n % 2=0) (hb:¬ 63<n / 2) (hk:bkL (l.drop k)=(m,j,0)):getT l=.inr (repT (m+1) (n / 2+4),k+j):=by
 unfold getT;rw [h];rw [if_neg (by simp),if_neg h2,if_neg hb];simp only [hk]
 rw [if_neg (by simp)]
theorem bkL_bad {l:List UInt8} {n k e:Nat} (h:getL l=(n,k,e)) (he:e≠0):bkL l=(0,0,e):=by
 unfold bkL;rw [h];rw [if_pos (by exact he)]
theorem bkL_range {l:List UInt8} {n k:Nat} (h:getL l=(n,k,0)) (hm:1023<n):bkL l=(0,0,2):=by
 unfold bkL;rw [h];rw [if_neg (by simp),if_pos hm]
theorem bkL_ok {l:List UInt8} {n k:Nat} (h:getL l=(n,k,0)) (hm:¬ 1023<n):bkL l=(n,k,0):=by
 unfold bkL;rw [h];rw [if_neg (by simp),if_neg hm]
theorem bkL_cases (l:List UInt8):(∃ e,bkL l=(0,0,e)∧e≠0)∨∃ m j,bkL l=(m,j,0)∧getL l=(m,j,0)∧m≤1023:=by
 obtain ⟨n,k,e,h⟩:∃ n k e,getL l=(n,k,e):=⟨_,_,_,rfl⟩;by_cases he:e=0
 · subst he;by_cases hm:1023<n
   · exact .inl ⟨2,bkL_range h hm,by omega⟩
   · exact .inr ⟨n,k,bkL_ok h hm,h,by omega⟩
 · exact .inl ⟨e,bkL_bad h he,he⟩
def fine (t:Tok):Prop :=
 (t.own.size≠0∧t.size=0∧t.back=0)∨(t.own.size=0∧4≤t.size∧t.size≤67∧1≤t.back∧t.back≤1024)
theorem fine_of {t:Tok} {a:Nat} (h:wrongN t a=0):fine t:=by
 rcases wrongN_ok h with ⟨h1,h2,h3,_⟩ | ⟨h1,h2,h3,h4,h5,_,_⟩
 · exact .inl ⟨h1,h2,h3⟩
 · exact .inr ⟨h1,h2,h3,h4,h5⟩
theorem putT_own {t:Tok} (h:t.own.size≠0):putT t=putL (2 * t.own.size)++t.own.data.toList:=by unfold putT;rw [if_neg h]
theorem putT_rep {t:Tok} (h:t.own.size=0):putT t=putL (2 * (t.size.toNat-4)+1)++putL (t.back.toNat-1):=by unfold putT;rw [if_pos h]
theorem putT_pos (t:Tok):0<(putT t).length:=by
 unfold putT;split
 · rw [List.length_append];have:=putL_pos (2 * (t.size.toNat-4)+1);omega
 · rw [List.length_append];have:=putL_pos (2 * t.own.size);omega
theorem getT_only {l:List UInt8} {t:Tok} {k:Nat} (h:getT l=.inr (t,k)):1≤k∧k≤l.length∧putT t=l.take k∧fine t∧t.own.size≤l.length:=by
 obtain ⟨n,j,e,hg⟩:∃ n k e,getL l=(n,k,e):=⟨_,_,_,rfl⟩;by_cases he:e=0
 · subst he;obtain ⟨g1,g2,g3⟩:=getL_only hg;by_cases h2:n % 2=0
   · by_cases h0:n=0
     · subst h0;rw [getT_zero hg] at h;cases h
     · by_cases hl:l.length<j+n / 2
       · rw [getT_miss hg h2 h0 hl] at h;cases h
       · rw [getT_own hg h2 h0 hl] at h;injection h with h
         injection h with ht hk
         subst ht hk;have hlen:((l.drop j).take (n / 2)).length=n / 2:=by rw [List.length_take,List.length_drop];omega
         have hsz:(⟨((l.drop j).take (n / 2)).toArray⟩:ByteArray).size=n / 2:=by rw [bs_size,hlen]
         refine ⟨by omega,by omega,?_,.inl ⟨by simp only [hsz];omega,rfl,rfl⟩,by simp only [hsz];omega⟩;rw [putT_own (by simp only [hsz];omega)];simp only [hsz]
         rw [show 2 * (n / 2)=n by omega,g3,List.take_add]
   · by_cases hb:63<n / 2
     · rw [getT_big hg h2 hb] at h;cases h
     · rcases bkL_cases (l.drop j) with ⟨e,hk,he⟩ | ⟨m,i,hk,hm,hm2⟩
       · rw [getT_back hg h2 hb hk he] at h;cases h
       · rw [getT_rep hg h2 hb hk] at h;injection h with h
         injection h with ht hkk
         subst ht hkk;obtain ⟨q1,q2,q3⟩:=getL_only hm;rw [List.length_drop] at q2;have hz:(repT (m+1) (n / 2+4)).own.size=0:=rfl;refine ⟨by omega,by omega,?_,.inr ⟨hz,?_,?_,?_,?_⟩,by rw [hz];omega⟩
         · rw [putT_rep hz];have e1:(repT (m+1) (n / 2+4)).size.toNat=n / 2+4:=by show (((n / 2+4:Nat):Int)).toNat=_;omega
           have e2:(repT (m+1) (n / 2+4)).back.toNat=m+1:=by show (((m+1:Nat):Int)).toNat=_;omega
           rw [e1,e2,show 2 * (n / 2+4-4)+1=n by omega,show m+1-1=m by omega,g3,q3,List.take_add]
         · show (4:Int)≤((n / 2+4:Nat):Int);omega
         · show ((n / 2+4:Nat):Int)≤67;omega
         · show (1:Int)≤((m+1:Nat):Int);omega
         · show ((m+1:Nat):Int)≤1024;omega
 · rw [getT_num hg he] at h;cases h
def rdF (s:List UInt8):Nat→Nat→List Tok→List Nat→(Nat×Nat) ⊕ (List Tok×List Nat)
 | 0,_,l,b=>.inr (l,b)
 | f+1,a,l,b=>if a<s.length then match getT (s.drop a) with
   | .inl (e,p)=>.inl (e,a+p)
   | .inr (t,k)=>rdF s f (a+k) (l++[t]) (b++[a]) else .inr (l,b)
theorem rdF_end {s:List UInt8} {f a:Nat} {l:List Tok} {b:List Nat} (h:¬ a<s.length):rdF s f a l b=.inr (l,b):=by
 cases f with
 | zero=>rfl
 | succ f=>rw [rdF,if_neg h]
theorem rdF_bad {s:List UInt8} {f a e p:Nat} {l:List Tok} {b:List Nat} (h:a<s.length) (hg:getT (s.drop a)=.inl (e,p)):rdF s (f+1) a l b=.inl (e,a+p):=by
 rw [rdF,if_pos h,hg]
theorem rdF_ok {s:List UInt8} {f a k:Nat} {t:Tok} {l:List Tok} {b:List Nat} (h:a<s.length) (hg:getT (s.drop a)=.inr (t,k)):rdF s (f+1) a l b=rdF s f (a+k) (l++[t]) (b++[a]):=by
 rw [rdF,if_pos h,hg]
def readF (s:List UInt8):(Nat×Int)×List Tok :=
 match rdF s s.length 0 [] [] with
 | .inl (e,p)=>((e,(p:Int)),[])
 | .inr (l,b)=>if (rightF l 0 0).1=0 then ((0,-1),l) else (((rightF l 0 0).1,((b.getD (rightF l 0 0).2.toNat 0:Nat):Int)),[])
theorem readF_bad {s:List UInt8} {e p:Nat} (h:rdF s s.length 0 [] []=.inl (e,p)):readF s=((e,(p:Int)),[]):=by unfold readF;rw [h]
theorem readF_ok {s:List UInt8} {l:List Tok} {b:List Nat} (h:rdF s s.length 0 [] []=.inr (l,b)) (hr:(rightF l 0 0).1=0):readF s=((0,-1),l):=by unfold readF;rw [h];exact if_pos hr
theorem readF_wrong {s:List UInt8} {l:List Tok} {b:List Nat} (h:rdF s s.length 0 [] []=.inr (l,b)) (hr:¬ (rightF l 0 0).1=0) :
   readF s=(((rightF l 0 0).1,((b.getD (rightF l 0 0).2.toNat 0:Nat):Int)),[]):=by unfold readF;rw [h];exact if_neg hr
theorem right_fine {l:List Tok} {i a:Nat} (h:(rightF l i a).1=0):∀ t∈l,fine t∧t.own.size≤140737488351232:=by
 induction l generalizing i a with
 | nil=>intro t ht;cases ht
 | cons u r ih =>
   obtain ⟨h1,h2⟩:=rightF_head h;intro t ht;rcases List.mem_cons.1 ht with rfl | ht
   · refine ⟨fine_of h1,?_⟩;have:=wrongN_le h1;unfold lenT at this;omega
   · exact ih h2 t ht
theorem rdF_only (s:List UInt8):∀ (f a:Nat) (l m:List Tok) (b b':List Nat),a≤s.length→s.length≤a+f→rdF s f a l b=.inr (m,b')→∃ r,m=l++r∧writeL r=s.drop a∧∀ t∈r,fine t∧t.own.size≤s.length:=by
 intro f
 induction f with
 | zero =>
   intro a l m b b' ha hf h;rw [rdF] at h;injection h with h
   injection h with h1 h2
   exact ⟨[],by rw [←h1,List.append_nil],by rw [List.drop_eq_nil_of_le (by omega)];rfl,fun t ht=>by cases ht⟩
 | succ f ih =>
   intro a l m b b' ha hf h;by_cases hlt:a<s.length
   · match hg:getT (s.drop a) with
     | .inl (e,p)=>rw [rdF_bad hlt hg] at h;cases h
     | .inr (t,k) =>
       rw [rdF_ok hlt hg] at h;obtain ⟨h1,h2,h3,h4,h5⟩:=getT_only hg;rw [List.length_drop] at h2 h5;obtain ⟨r,hr,hw,hr2⟩:=ih (a+k) (l++[t]) m (b++[a]) b' (by omega) (by omega) h;refine ⟨t::r,by rw [hr,List.append_assoc];rfl,?_,fun u hu=>?_⟩
       · rw [writeL_cons,hw,h3,←List.drop_drop,List.take_append_drop]
       · rcases List.mem_cons.1 hu with rfl | hu
         · exact ⟨h4,by omega⟩
         · exact hr2 u hu
   · rw [rdF_end hlt] at h;injection h with h
     injection h with h1 h2
     exact ⟨[],by rw [←h1,List.append_nil],by rw [List.drop_eq_nil_of_le (by omega)];rfl,fun t ht=>by cases ht⟩
theorem read_only {s:List UInt8} (h:(readF s).1.1=0):(rightF (readF s).2 0 0).1=0∧writeL (readF s).2=s:=by
 match hr:rdF s s.length 0 [] [] with
 | .inl (e,p) =>
   exfalso
   rw [readF_bad hr] at h;simp only at h
   have:∀ (f a:Nat) (l:List Tok) (b:List Nat) (e p:Nat),rdF s f a l b=.inl (e,p)→e≠0:=by
     intro f
     induction f with
     | zero=>intro a l b e p h;cases h
     | succ f ih =>
       intro a l b e p h;by_cases hlt:a<s.length
       · match hg:getT (s.drop a) with
         | .inl (e',p') =>
           rw [rdF_bad hlt hg] at h;injection h with h
           injection h with h1 h2
           subst h1;intro h0;subst h0;unfold getT at hg;split at hg
           · rename_i hne;injection hg with hg;injection hg with hg _;exact hne hg
           · split at hg
             · split at hg
               · injection hg with hg;injection hg with hg _;omega
               · split at hg
                 · injection hg with hg;injection hg with hg _;omega
                 · cases hg
             · split at hg
               · injection hg with hg;injection hg with hg _;omega
               · split at hg
                 · rename_i hne;injection hg with hg;injection hg with hg _;exact hne hg
                 · cases hg
         | .inr (t,k)=>rw [rdF_ok hlt hg] at h;exact ih _ _ _ _ _ h
       · rw [rdF_end hlt] at h;cases h
   exact this _ _ _ _ _ _ hr h
 | .inr (l,b) =>
   by_cases hw:(rightF l 0 0).1=0
   · rw [readF_ok hr hw];obtain ⟨r,h1,h2,_⟩:=rdF_only s s.length 0 [] l [] b (Nat.zero_le _) (by omega) hr;rw [List.nil_append] at h1;subst h1;exact ⟨hw,h2⟩
   · rw [readF_wrong hr hw] at h;exact absurd h hw
theorem read_bad {s:List UInt8} (h:(readF s).1.1≠0):(readF s).2=[]:=by
 unfold readF at h ⊢;split
 · rfl
 · rename_i l b hr;rw [hr] at h;split
   · rename_i hw;simp only [if_pos hw] at h;exact absurd rfl h
   · rfl
end Go.Proofs.YtgfinhehgfbdgaaGreatDoor
