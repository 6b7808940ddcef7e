/- Marks: as laid in Mark. -/
import Derived.Test.YtnefnbojomlaeaaMark
